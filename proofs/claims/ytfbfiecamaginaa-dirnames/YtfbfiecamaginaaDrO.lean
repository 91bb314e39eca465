/- Add, by the document. -/
import Derived.Test.YtfbfiecamaginaaDrM
namespace Go.Proofs.Ytfbfiecamaginaa
open Go.RowKit Go.Sort

set_option maxHeartbeats 4000000 in
set_option maxRecDepth 100000 in
theorem RAdd_any {k r c q : Int} {M : Nat} {e : Int} (hp : PP k r c q M e) (w : World) (ao : Option Addr) (l : List En) (ca : Nat) (hv : Ren w ao l ca) (hf : Few l) (N : Nm) (R : Int) (hf2 : Few (insE l (N, R))) :
    Calls Try.prog 21 #[.agg #[.int .i64 k, .int .i64 r, .int .i64 c, .int .i64 q], .slice ao l.length ca, .agg #[.string ⟨N.toArray⟩, .int .i64 R]] w fun e' w' =>
      ∃ E bo cb L, E = erA (erC e M q l) M q l (N, R) ∧ L = (if E = 0 then insE l (N, R) else []) ∧ e' = .returned (.tuple #[.slice bo L.length cb, .int .i64 E]) ∧ OwE w.heap.size w' bo L cb ∧ RowKit.Below w.heap.size w w' := by
  obtain ⟨w0, hw0⟩ : ∃ w0, w0 = w.alloc (.cells #[.int .i64 k, .int .i64 r, .int .i64 c, .int .i64 q] 24) := ⟨_, rfl⟩
  have b0 : RowKit.Below w.heap.size w w0 := by rw [hw0]; exact below_alloc _ _
  obtain ⟨v0, hv0⟩ : ∃ v0, v0 = w0.alloc (.cells #[.string ⟨N.toArray⟩, .int .i64 R] 34) := ⟨_, rfl⟩
  have b1 : RowKit.Below w0.heap.size w0 v0 := by rw [hv0]; exact below_alloc _ _
  have HPAR : Hid (∀ v, RowKit.Below v0.heap.size v0 v → v.cell? ⟨w.heap.size, 0, none⟩ = some (.int .i64 k) ∧ v.cell? ⟨w.heap.size, 1, none⟩ = some (.int .i64 r) ∧ v.cell? ⟨w.heap.size, 2, none⟩ = some (.int .i64 c) ∧ v.cell? ⟨w.heap.size, 3, none⟩ = some (.int .i64 q)) := fun v hv => par_held hw0 (below_then b1 hv)
  have hs0 : w0.heap.size = w.heap.size + 1 := by rw [hw0]; simp
  have HEN : Hid (∀ v, RowKit.Below v0.heap.size v0 v → v.cell? ⟨w.heap.size + 1, 0, none⟩ = some (.string ⟨N.toArray⟩) ∧ v.cell? ⟨w.heap.size + 1, 1, none⟩ = some (.int .i64 R)) := fun v hv => by rw [← hs0]; exact ent_held hv0 hv
  have HB0 : Hid (RowKit.Below w.heap.size w v0) := below_then b0 b1
  have hv1 : Ren v0 ao l ca := hv.below HB0.out
  have HC := RCheck_e hp v0 ao l ca hv1 hf
  have HO := one_any k r c q N R
  have HV : Hid (Ren v0 ao l ca) := hv1
  have HF : Hid (Few l) := hf
  have HF2 : Hid (Few (insE l (N, R))) := hf2
  have HP : Hid (PP k r c q M e) := hp
  obtain ⟨x0, x1, x2, x3⟩ := HPAR.out v0 (Below.refl _ _)
  rw [hw0] at hv0
  have HW : Hid ((w.alloc (.cells #[.int .i64 k, .int .i64 r, .int .i64 c, .int .i64 q] 24)).alloc (.cells #[.string ⟨N.toArray⟩, .int .i64 R] 34) = v0) := hv0.symm
  clear hv hf b0 hp hw0 b1 hv0 hs0 hv1 hf2
  by_cases he : erC e M q l = 0
  · obtain ⟨g1, g2, g3⟩ := erC_zero he
    have HE : Hid (erC e M q l = 0) := he
    have HG1 : Hid (e = 0) := g1
    rw [he] at HC ⊢
    clear he g1 g2 g3
    go_enter Try.func21, Try.ntmps21
    go_wp2_with fail
    rw [HW.out]
    clear HW
    refine HC.mono ?_
    rintro _ w1 ⟨rfl, h1⟩
    have HB1 : Hid (RowKit.Below v0.heap.size v0 w1) := h1
    clear h1 HC x0 x1 x2 x3
    obtain ⟨x0, x1, x2, x3⟩ := HPAR.out w1 HB1.out
    obtain ⟨y0, y1⟩ := HEN.out w1 HB1.out
    cases h1 : oneE q (N, R)
    · rw [h1] at HO
      have H1 : Hid (oneE q (N, R) = false) := h1
      clear h1
      go_wp2_with fail
      refine (HO _).mono ?_
      rintro _ w3 ⟨rfl, h3⟩
      go_wp2
      go_ret2
      exact ⟨220, none, 0, [], (erA_one H1.out).symm, by rw [if_neg (by decide)], rfl, owe_nil _ _, below_then HB0.out (below_then HB1.out h3)⟩
    · rw [h1] at HO
      have H1 : Hid (oneE q (N, R) = true) := h1
      clear h1
      go_wp2_with fail
      refine (HO _).mono ?_
      rintro _ w3 ⟨rfl, h3⟩
      have HB3 : Hid (RowKit.Below v0.heap.size v0 w3) := below_then HB1.out h3
      have hS := at_any w3 ao l ca (HV.out.below HB3.out) HF.out N
      clear h3 HO x0 x1 x2 x3 y0 y1
      obtain ⟨y0, y1⟩ := HEN.out w3 HB3.out
      cases hi : isE l N
      · rw [hi] at hS
        have HI : Hid (isE l (N, R).1 = false) := hi
        clear hi
        have HIN : Hid (insE l (N, R) = l.take (posE l N) ++ ([(N, R)] ++ l.drop (posE l N))) := insE_eq l (N, R)
        have hple := posE_le l N
        obtain ⟨p, hp⟩ : ∃ p, p = posE l N := ⟨_, rfl⟩
        rw [← hp] at HIN hple hS
        have hln := HF.out.1
        have hroom := Rev.room HV.out
        have HEA : Hid (erA 0 M q l (N, R) = if M < szE (insE l (N, R)) then 3 else 0) := erA_sz H1.out HI.out
        have HK : Hid (∀ u uo uc, Ren u uo (insE l (N, R)) uc → Calls Try.prog 46 #[.slice uo (insE l (N, R)).length uc] u fun e' w' => e' = .returned (.int .i64 (szE (insE l (N, R)) : Int)) ∧ RowKit.Below u.heap.size u w') := fun u uo uc hu => size_any u uo (insE l (N, R)) uc hu HF2.out.2.1
        have HRR := HP.out.rm HG1.out
        clear HP HF2
        have hp0 : (0 : Int) ≤ (p : Int) := by omega
        have hp1 : (p : Int) ≤ (l.length : Int) := by omega
        have hp2 : (l.length : Int) ≤ (ca : Int) := by omega
        have hp3 : (p : Int) ≤ (ca : Int) := by omega
        by_cases hl0 : l.length = 0 ∧ ao = none
        · obtain ⟨h01, rfl⟩ := hl0
          obtain ⟨rfl, rfl⟩ := HV.out.nil
          obtain rfl : p = 0 := by simpa using hple
          have HR1 : Hid (∀ u, RowKit.Below v0.heap.size v0 u → Ren u none [] 0) := fun u hu => rev_nil u
          have HR2 := HR1
          clear hp h01 hple hln hroom
          go_wp2_with fail
          refine hS.mono ?_
          rintro _ w4 ⟨rfl, h4⟩
          have HB4 : Hid (RowKit.Below v0.heap.size v0 w4) := below_then HB3.out h4
          clear h4 hS y0 y1
          have hr1 := HR1.out w4 HB4.out
          have HS4 : Hid (w.heap.size ≤ w4.heap.size) := (below_then HB0.out HB4.out).size
          go_wp2_with (first
            | (at_builtin; refine append_ents (by rfl) (.tmp 30) (.tmp 33) (by rfl) w4.heap.size 0 0 none (none) [] [] (by rfl) (by rfl) (owe_nil _ _) hr1 (by simp <;> omega) (Nat.le_refl _) ?_; intro bo2 cb2 w5 L2 hL2 ho2 hg2; have HL2 : Hid (L2 = []) := hL2; have HB5 : Hid (RowKit.Below w4.heap.size w4 w5) := (Below.refl _ _).grown hg2 (Nat.le_refl _) (fun k e => by cases e); have HO2 : Hid (OwE w4.heap.size w5 bo2 L2 cb2) := ho2; have hk2 : L2.length ≤ 1000000 := (by rw [hL2]; simp <;> omega); clear hL2 ho2 hg2 hr1; obtain ⟨y0, y1⟩ := HEN.out w5 (below_then HB4.out HB5.out); obtain ⟨w6, hw6⟩ : ∃ w6, w6 = w5.alloc (.cells #[.string ⟨N.toArray⟩, .int .i64 R] 34) := ⟨_, rfl⟩; have hb6 : RowKit.Below w5.heap.size w5 w6 := (by rw [hw6]; exact below_alloc _ _); have hlit : Ren w6 (some ⟨w5.heap.size, 0, none⟩) [(N, R)] 1 := ren_lit N R hw6; have hown6 := HO2.out.below hb6; have HB6 : Hid (RowKit.Below w4.heap.size w4 w6) := below_then HB5.out hb6; have hsz6 := HB6.out.size; have hone : L2.length + [(N, R)].length ≤ 10000000 := (by simp; omega); clear hb6)
            | (rw [← hw6]; at_builtin; refine append_ents (by rfl) (.tmp 35) (.tmp 37) (by rfl) w4.heap.size cb2 1 bo2 (some ⟨w5.heap.size, 0, none⟩) L2 [(N, R)] (by rfl) (by rfl) hown6 hlit hone hsz6 ?_; intro bo3 cb3 w7 L3 hL3 ho3 hg3; have HL3 : Hid (L3 = L2 ++ [(N, R)]) := hL3; have HB7 : Hid (RowKit.Below w4.heap.size w4 w7) := HB6.out.grown hg3 hsz6 hown6.ge; have HO3 : Hid (OwE w4.heap.size w7 bo3 L3 cb3) := ho3; have hk3 : L3.length ≤ 1000001 := (by rw [hL3]; simp; omega); have hsz7 := HB7.out.size; have hr2 := HR2.out w7 (below_then HB4.out HB7.out); have hb3 : L3.length + ([] : List En).length ≤ 10000000 := (by first | omega | (simp <;> omega)); clear hL3 ho3 hg3 hw6 hown6 hlit y0 y1)
            | (at_builtin; refine append_ents (by rfl) (.tmp 39) (.tmp 42) (by rfl) w4.heap.size cb3 (0) bo3 (none) L3 [] (by rfl) (by rfl) HO3.out hr2 hb3 hsz7 ?_; intro bo4 cb4 w8 L4 hL4 ho4 hg4; have HLI : Hid (L4 = insE [] (N, R)) := (by show _ = _; rw [HIN.out, hL4, HL3.out, HL2.out, List.append_assoc] <;> rfl); have HB8 : Hid (RowKit.Below w4.heap.size w4 w8) := HB7.out.grown hg4 hsz7 HO3.out.ge; have HO4 : Hid (OwE w4.heap.size w8 bo4 L4 cb4) := ho4; clear hL4 ho4 hg4))
          have HB9 : Hid (RowKit.Below v0.heap.size v0 w8) := below_then HB4.out HB8.out
          obtain ⟨Z, hZ⟩ : ∃ Z, Z = szE L4 := ⟨_, rfl⟩
          have HZ : Hid (Z = szE L4) := hZ
          rw [← HLI.out] at HK HEA
          rw [← hZ] at HK HEA
          have cS := fun d os => Calls.regrown_of (d := d) (os := os) (HK.out (grow (redrawn w8 d) os) bo4 cb4 (HO4.out.ren.below (below_regrown w8 d os)))
          have cM := fun d os => Calls.regrown_of (d := d) (os := os) (HRR (grow (redrawn w8 d) os))
          obtain ⟨x0, x1, x2, x3⟩ := HPAR.out w8 HB9.out
          have k0 := cell_regrown x0
          have k1 := cell_regrown x1
          have k2 := cell_regrown x2
          have k3 := cell_regrown x3
          clear x0 x1 x2 x3 HRR HK hZ
          by_cases hz : M < Z
          · have hz1 : (M : Int) < (Z : Int) := by omega
            rw [if_pos hz] at HEA
            go_wp2_with fail
            refine wp_region_quiet_below (by kernel_rfl) (by kernel_rfl) ?_
            repeat (go_big_quiet_step (first | exact cS _ _ | exact cM _ _))
            refine wpQuiet_nil ?_
            intro _ hw'
            obtain ⟨⟨dq, osq⟩, hw''⟩ := hw'
            subst hw''
            go_wp2
            go_ret2
            exact ⟨3, none, 0, [], HEA.out.symm, by rw [if_neg (by decide)], rfl, owe_nil _ _, below_then HB0.out (below_then HB9.out (below_regrown w8 dq osq))⟩
          · have hz1 : ¬ (M : Int) < (Z : Int) := by omega
            rw [if_neg hz] at HEA
            go_wp2_with fail
            refine wp_region_quiet_below (by kernel_rfl) (by kernel_rfl) ?_
            repeat (go_big_quiet_step (first | exact cS _ _ | exact cM _ _))
            refine wpQuiet_nil ?_
            intro _ hw'
            obtain ⟨⟨dq, osq⟩, hw''⟩ := hw'
            subst hw''
            go_wp2
            go_ret2
            exact ⟨0, bo4, cb4, L4, HEA.out.symm, by rw [if_pos rfl]; exact HLI.out, rfl, (HO4.out.below (below_regrown w8 dq osq)).mono HS4.out, below_then HB0.out (below_then HB9.out (below_regrown w8 dq osq))⟩
        · obtain ⟨ad, rfl⟩ : ∃ ad, ao = some ad := by
            cases ao with
            | some ad => exact ⟨ad, rfl⟩
            | none => exact absurd ⟨by rw [HV.out.nil.1]; rfl, rfl⟩ hl0
          obtain ⟨sa, hsa⟩ : ∃ sa, (if ca = p then some ad else some (ad.add (p * 2))) = sa := ⟨_, rfl⟩
          have HR1 : Hid (∀ u, RowKit.Below v0.heap.size v0 u → Ren u (some ad) (l.take p) ca) := fun u hu => (HV.out.below hu).uptoA hple
          have HR2 : Hid (∀ u, RowKit.Below v0.heap.size v0 u → Ren u sa (l.drop p) (ca - p)) := fun u hu => by rw [← hsa]; exact (HV.out.below hu).fromA hple
          have hl1 : (l.take p).length = p := by rw [List.length_take]; omega
          have hl2 : (l.drop p).length = l.length - p := by rw [List.length_drop]
          obtain ⟨A, hA1⟩ : ∃ A, A = l.take p := ⟨_, rfl⟩
          obtain ⟨D, hD1⟩ : ∃ D, D = l.drop p := ⟨_, rfl⟩
          rw [← hA1] at HR1 hl1 HIN
          rw [← hD1] at HR2 hl2 HIN
          have hAD : A.length ≤ 1000000 := by omega
          have hDD : D.length ≤ 1000000 := by omega
          clear hp hA1 hD1 hl0
          go_wp2_with fail
          refine hS.mono ?_
          rintro _ w4 ⟨rfl, h4⟩
          have HB4 : Hid (RowKit.Below v0.heap.size v0 w4) := below_then HB3.out h4
          clear h4 hS y0 y1
          have hr1 := HR1.out w4 HB4.out
          have HS4 : Hid (w.heap.size ≤ w4.heap.size) := (below_then HB0.out HB4.out).size
          go_wp2_with (first
            | (at_builtin; refine append_ents (by rfl) (.tmp 30) (.tmp 33) (by rfl) w4.heap.size 0 ca none (some ad) [] A (by rfl) (by rw [hl1]; rfl) (owe_nil _ _) hr1 (by simp <;> omega) (Nat.le_refl _) ?_; intro bo2 cb2 w5 L2 hL2 ho2 hg2; have HL2 : Hid (L2 = A) := hL2; have HB5 : Hid (RowKit.Below w4.heap.size w4 w5) := (Below.refl _ _).grown hg2 (Nat.le_refl _) (fun k e => by cases e); have HO2 : Hid (OwE w4.heap.size w5 bo2 L2 cb2) := ho2; have hk2 : L2.length ≤ 1000000 := (by rw [hL2]; simp <;> omega); clear hL2 ho2 hg2 hr1; obtain ⟨y0, y1⟩ := HEN.out w5 (below_then HB4.out HB5.out); obtain ⟨w6, hw6⟩ : ∃ w6, w6 = w5.alloc (.cells #[.string ⟨N.toArray⟩, .int .i64 R] 34) := ⟨_, rfl⟩; have hb6 : RowKit.Below w5.heap.size w5 w6 := (by rw [hw6]; exact below_alloc _ _); have hlit : Ren w6 (some ⟨w5.heap.size, 0, none⟩) [(N, R)] 1 := ren_lit N R hw6; have hown6 := HO2.out.below hb6; have HB6 : Hid (RowKit.Below w4.heap.size w4 w6) := below_then HB5.out hb6; have hsz6 := HB6.out.size; have hone : L2.length + [(N, R)].length ≤ 10000000 := (by simp; omega); clear hb6)
            | (rw [← hw6]; at_builtin; refine append_ents (by rfl) (.tmp 35) (.tmp 37) (by rfl) w4.heap.size cb2 1 bo2 (some ⟨w5.heap.size, 0, none⟩) L2 [(N, R)] (by rfl) (by rfl) hown6 hlit hone hsz6 ?_; intro bo3 cb3 w7 L3 hL3 ho3 hg3; have HL3 : Hid (L3 = L2 ++ [(N, R)]) := hL3; have HB7 : Hid (RowKit.Below w4.heap.size w4 w7) := HB6.out.grown hg3 hsz6 hown6.ge; have HO3 : Hid (OwE w4.heap.size w7 bo3 L3 cb3) := ho3; have hk3 : L3.length ≤ 1000001 := (by rw [hL3]; simp; omega); have hsz7 := HB7.out.size; have hr2 := HR2.out w7 (below_then HB4.out HB7.out); have hb3 : L3.length + D.length ≤ 10000000 := (by first | omega | (simp <;> omega)); clear hL3 ho3 hg3 hw6 hown6 hlit y0 y1)
            | (at_builtin; refine append_ents (by rfl) (.tmp 39) (.tmp 42) (by rfl) w4.heap.size cb3 (ca - p) bo3 (sa) L3 D (by rfl) (by rw [hl2]; rfl) HO3.out hr2 hb3 hsz7 ?_; intro bo4 cb4 w8 L4 hL4 ho4 hg4; have HLI : Hid (L4 = insE l (N, R)) := (by show _ = _; rw [HIN.out, hL4, HL3.out, HL2.out, List.append_assoc] <;> rfl); have HB8 : Hid (RowKit.Below w4.heap.size w4 w8) := HB7.out.grown hg4 hsz7 HO3.out.ge; have HO4 : Hid (OwE w4.heap.size w8 bo4 L4 cb4) := ho4; clear hL4 ho4 hg4))
          have HB9 : Hid (RowKit.Below v0.heap.size v0 w8) := below_then HB4.out HB8.out
          obtain ⟨Z, hZ⟩ : ∃ Z, Z = szE L4 := ⟨_, rfl⟩
          have HZ : Hid (Z = szE L4) := hZ
          rw [← HLI.out] at HK HEA
          rw [← hZ] at HK HEA
          have cS := fun d os => Calls.regrown_of (d := d) (os := os) (HK.out (grow (redrawn w8 d) os) bo4 cb4 (HO4.out.ren.below (below_regrown w8 d os)))
          have cM := fun d os => Calls.regrown_of (d := d) (os := os) (HRR (grow (redrawn w8 d) os))
          obtain ⟨x0, x1, x2, x3⟩ := HPAR.out w8 HB9.out
          have k0 := cell_regrown x0
          have k1 := cell_regrown x1
          have k2 := cell_regrown x2
          have k3 := cell_regrown x3
          clear x0 x1 x2 x3 HRR HK hZ
          by_cases hz : M < Z
          · have hz1 : (M : Int) < (Z : Int) := by omega
            rw [if_pos hz] at HEA
            go_wp2_with fail
            refine wp_region_quiet_below (by kernel_rfl) (by kernel_rfl) ?_
            repeat (go_big_quiet_step (first | exact cS _ _ | exact cM _ _))
            refine wpQuiet_nil ?_
            intro _ hw'
            obtain ⟨⟨dq, osq⟩, hw''⟩ := hw'
            subst hw''
            go_wp2
            go_ret2
            exact ⟨3, none, 0, [], HEA.out.symm, by rw [if_neg (by decide)], rfl, owe_nil _ _, below_then HB0.out (below_then HB9.out (below_regrown w8 dq osq))⟩
          · have hz1 : ¬ (M : Int) < (Z : Int) := by omega
            rw [if_neg hz] at HEA
            go_wp2_with fail
            refine wp_region_quiet_below (by kernel_rfl) (by kernel_rfl) ?_
            repeat (go_big_quiet_step (first | exact cS _ _ | exact cM _ _))
            refine wpQuiet_nil ?_
            intro _ hw'
            obtain ⟨⟨dq, osq⟩, hw''⟩ := hw'
            subst hw''
            go_wp2
            go_ret2
            exact ⟨0, bo4, cb4, L4, HEA.out.symm, by rw [if_pos rfl]; exact HLI.out, rfl, (HO4.out.below (below_regrown w8 dq osq)).mono HS4.out, below_then HB0.out (below_then HB9.out (below_regrown w8 dq osq))⟩
      · rw [hi] at hS
        have HI : Hid (isE l (N, R).1 = true) := hi
        clear hi
        go_wp2_with fail
        refine hS.mono ?_
        rintro _ w4 ⟨rfl, h4⟩
        go_wp2
        go_ret2
        exact ⟨7, none, 0, [], (erA_is H1.out HI.out).symm, by rw [if_neg (by decide)], rfl, owe_nil _ _, below_then HB0.out (below_then HB3.out h4)⟩
  · have hz : (erC e M q l != 0) = true := by simpa using he
    have HE : Hid (erC e M q l ≠ 0) := he
    obtain ⟨E, hE⟩ : ∃ E, E = erC e M q l := ⟨_, rfl⟩
    rw [← hE] at HC he hz HE ⊢
    clear hE
    go_enter Try.func21, Try.ntmps21
    go_wp2_with fail
    rw [HW.out]
    clear HW
    refine HC.mono ?_
    rintro _ w1 ⟨rfl, h1⟩
    go_wp2
    go_ret2
    exact ⟨E, none, 0, [], (erA_no HE.out).symm, by rw [if_neg HE.out], rfl, owe_nil _ _, below_then HB0.out h1⟩
end Go.Proofs.Ytfbfiecamaginaa
