/- Add, by the program. -/
import Derived.Test.YtfbfiecamaginaaDrL
namespace Go.Proofs.Ytfbfiecamaginaa
open Go.RowKit Go.Sort

theorem evl_one1 (N : Nm) (R : Int) : evl [(N, R)] = [.string ⟨N.toArray⟩, .int .i64 R] := rfl
/-- A new row of one entry. -/
theorem ren_lit {w w0 : World} (N : Nm) (R : Int) (h0 : w0 = w.alloc (.cells #[.string ⟨N.toArray⟩, .int .i64 R] 34)) : Ren w0 (some ⟨w.heap.size, 0, none⟩) [(N, R)] 1 := by
  refine ⟨fun _ => ⟨_, _, rfl, fun j u hj => ?_⟩, (fun e => by cases e), Nat.le_refl _⟩
  rw [Nat.zero_add]
  refine blk_held h0 (Below.refl _ _) j ?_
  rw [evl_one1] at hj
  simpa using hj
theorem Ren.fromA {w : World} {ad : Addr} {l : List En} {cap : Nat} (h : Ren w (some ad) l cap) {p : Nat} (hp : p ≤ l.length) : Ren w (if cap = p then some ad else some (ad.add (p * 2))) (l.drop p) (cap - p) := by
  have hroom := Rev.room h
  by_cases hl : l = []
  · subst hl
    obtain rfl : p = 0 := by simpa using hp
    refine ⟨fun h => absurd h (Nat.lt_irrefl 0), fun e => ?_, Nat.zero_le _⟩
    split at e <;> cases e
  · obtain ⟨b, off, e, _⟩ := h.at_ (List.length_pos_iff.2 hl)
    cases e
    rw [alit]
    exact h.from hp
theorem Ren.uptoA {w : World} {ad : Addr} {l : List En} {cap : Nat} (h : Ren w (some ad) l cap) {p : Nat} (hp : p ≤ l.length) : Ren w (some ad) (l.take p) cap := by
  by_cases hl : l = []
  · subst hl
    rw [List.take_nil]
    exact h
  · obtain ⟨b, off, e, _⟩ := h.at_ (List.length_pos_iff.2 hl)
    cases e
    exact h.upto hp
set_option maxHeartbeats 4000000 in
set_option maxRecDepth 100000 in
theorem Add_any {k r c q : Int} {M : Nat} {e : Int} (hp : PP k r c q M e) (w : World) (ao : Option Addr) (l : List En) (ca : Nat) (hv : Ren w ao l ca) (hf : Few l) (N : Nm) (R : Int) (hf2 : Few (insE l (N, R))) :
    Calls Try.prog 11 #[.agg #[.int .i64 k, .int .i64 r, .int .i64 c, .int .i64 q], .slice ao l.length ca, .agg #[.string ⟨N.toArray⟩, .int .i64 R]] w fun e' w' =>
      ∃ E bo cb L, E = erA (erC e M q l) M q l (N, R) ∧ L = (if E = 0 then insE l (N, R) else []) ∧ e' = .returned (.tuple #[.slice bo L.length cb, .int .i64 E]) ∧ OwE w.heap.size w' bo L cb ∧ RowKit.Below w.heap.size w w' := by
  obtain ⟨w0, hw0⟩ : ∃ w0, w0 = w.alloc (.cells #[.int .i64 k, .int .i64 r, .int .i64 c, .int .i64 q] 24) := ⟨_, rfl⟩
  have b0 : RowKit.Below w.heap.size w w0 := by rw [hw0]; exact below_alloc _ _
  obtain ⟨v0, hv0⟩ : ∃ v0, v0 = w0.alloc (.cells #[.string ⟨N.toArray⟩, .int .i64 R] 34) := ⟨_, rfl⟩
  have b1 : RowKit.Below w0.heap.size w0 v0 := by rw [hv0]; exact below_alloc _ _
  have HPAR : Hid (∀ v, RowKit.Below v0.heap.size v0 v → v.cell? ⟨w.heap.size, 0, none⟩ = some (.int .i64 k) ∧ v.cell? ⟨w.heap.size, 1, none⟩ = some (.int .i64 r) ∧ v.cell? ⟨w.heap.size, 2, none⟩ = some (.int .i64 c) ∧ v.cell? ⟨w.heap.size, 3, none⟩ = some (.int .i64 q)) := fun v hv => par_held hw0 (below_then b1 hv)
  have hs0 : w0.heap.size = w.heap.size + 1 := by rw [hw0]; simp
  have HEN : Hid (∀ v, RowKit.Below v0.heap.size v0 v → v.cell? ⟨w.heap.size + 1, 0, none⟩ = some (.string ⟨N.toArray⟩) ∧ v.cell? ⟨w.heap.size + 1, 1, none⟩ = some (.int .i64 R)) := fun v hv => by rw [← hs0]; exact ent_held hv0 hv
  have HB0 : Hid (RowKit.Below w.heap.size w v0) := below_then b0 b1
  have hv1 : Ren v0 ao l ca := hv.below HB0.out
  have HC := Check_e hp v0 ao l ca hv1 hf
  have HV : Hid (Ren v0 ao l ca) := hv1
  have HF : Hid (Few l) := hf
  have HF2 : Hid (Few (insE l (N, R))) := hf2
  have HP : Hid (PP k r c q M e) := hp
  obtain ⟨x0, x1, x2, x3⟩ := HPAR.out v0 (Below.refl _ _)
  rw [hw0] at hv0
  have HW : Hid ((w.alloc (.cells #[.int .i64 k, .int .i64 r, .int .i64 c, .int .i64 q] 24)).alloc (.cells #[.string ⟨N.toArray⟩, .int .i64 R] 34) = v0) := hv0.symm
  clear hv hf b0 hp hw0 b1 hv0 hs0 hv1 hf2
  by_cases he : erC e M q l = 0
  · obtain ⟨g1, g2, g3⟩ := erC_zero he
    have HG2 : Hid (mayE q l = true) := g2
    have HE : Hid (erC e M q l = 0) := he
    have HG1 : Hid (e = 0) := g1
    rw [he] at HC ⊢
    clear he g1 g2 g3
    go_enter Try.func11, Try.ntmps11
    go_wp2_with fail
    rw [HW.out]
    clear HW
    refine HC.mono ?_
    rintro _ w1 ⟨rfl, h1⟩
    have HB1 : Hid (RowKit.Below v0.heap.size v0 w1) := h1
    clear h1 HC x0 x1 x2 x3
    obtain ⟨x0, x1, x2, x3⟩ := HPAR.out w1 HB1.out
    obtain ⟨y0, y1⟩ := HEN.out w1 HB1.out
    obtain ⟨w2, hw2⟩ : ∃ w2, w2 = w1.alloc (.cells #[.string ⟨N.toArray⟩, .int .i64 R] 34) := ⟨_, rfl⟩
    have HB2 : Hid (RowKit.Below v0.heap.size v0 w2) := by show RowKit.Below _ _ _; rw [hw2]; exact below_then HB1.out (below_alloc _ _)
    have hMA := may_any k r c q w2 (some ⟨w1.heap.size, 0, none⟩) [(N, R)] 1 (ren_lit N R hw2) (by simp)
    rw [may_one] at hMA
    cases h1 : oneE q (N, R)
    · rw [h1] at hMA
      have H1 : Hid (oneE q (N, R) = false) := h1
      clear h1
      go_wp2_with fail
      rw [← hw2]
      clear hw2
      refine hMA.mono ?_
      rintro _ w3 ⟨rfl, h3⟩
      go_wp2
      go_ret2
      exact ⟨220, none, 0, [], (erA_one H1.out).symm, by rw [if_neg (by decide)], rfl, owe_nil _ _, below_then HB0.out (below_then HB2.out h3)⟩
    · rw [h1] at hMA
      have H1 : Hid (oneE q (N, R) = true) := h1
      clear h1
      go_wp2_with fail
      rw [← hw2]
      clear hw2
      refine hMA.mono ?_
      rintro _ w3 ⟨rfl, h3⟩
      have HB3 : Hid (RowKit.Below v0.heap.size v0 w3) := below_then HB2.out h3
      have hS := search_any w3 ao l ca (HV.out.below HB3.out) HF.out.1 (ri_of HG2.out) N
      clear h3 hMA x0 x1 x2 x3 y0 y1
      obtain ⟨y0, y1⟩ := HEN.out w3 HB3.out
      cases hi : isE l N
      · rw [hi] at hS
        have HI : Hid (isE l (N, R).1 = false) := hi
        clear hi
        go_wp2_with fail
        refine hS.mono ?_
        rintro _ w4 ⟨rfl, h4⟩
        have HB4 : Hid (RowKit.Below v0.heap.size v0 w4) := below_then HB3.out h4
        clear h4 hS y0 y1
        obtain ⟨y0, y1⟩ := HEN.out w4 HB4.out
        have HIN : Hid (insE l (N, R) = l.take (posE l N) ++ ([(N, R)] ++ l.drop (posE l N))) := insE_eq l (N, R)
        have hple := posE_le l N
        obtain ⟨p, hp⟩ : ∃ p, p = posE l N := ⟨_, rfl⟩
        rw [← hp] at HIN hple
        rw [← hp]
        have hln := HF.out.1
        have hroom := Rev.room HV.out
        obtain ⟨w5, hw5⟩ : ∃ w5, w5 = w4.alloc (.cells #[.string ⟨N.toArray⟩, .int .i64 R] 34) := ⟨_, rfl⟩
        have hb5 : RowKit.Below w4.heap.size w4 w5 := by rw [hw5]; exact below_alloc _ _
        have hr5 : Ren w5 ao l ca := (HV.out.below HB4.out).below hb5
        have hlit : Ren w5 (some ⟨w4.heap.size, 0, none⟩) [(N, R)] 1 := ren_lit N R hw5
        have HB5 : Hid (RowKit.Below v0.heap.size v0 w5) := below_then HB4.out hb5
        have hs5 : w5.heap.size = w4.heap.size + 1 := by rw [hw5]; simp
        have HE3 : Hid (erC e M q (insE l (N, R)) = if M < szE (insE l (N, R)) then 3 else 0) := by
          show _ = _
          have := mayE_ins HG2.out H1.out HI.out
          unfold erC
          rw [if_pos HG1.out, this, if_pos rfl]
        have HEA : Hid (erA 0 M q l (N, R) = if M < szE (insE l (N, R)) then 3 else 0) := erA_sz H1.out HI.out
        have HK : Hid (∀ u uo uc, Ren u uo (insE l (N, R)) uc → Calls Try.prog 24 #[.agg #[.int .i64 k, .int .i64 r, .int .i64 c, .int .i64 q], .slice uo (insE l (N, R)).length uc] u fun e' w' => e' = .returned (.int .i64 (erC e M q (insE l (N, R)))) ∧ RowKit.Below u.heap.size u w') := fun u uo uc hu => Check_e HP.out u uo (insE l (N, R)) uc hu HF2.out
        rw [HE3.out] at HK
        clear HP HF2 HE3
        obtain ⟨I, hI⟩ : ∃ I, I = insE l (N, R) := ⟨_, rfl⟩
        rw [← hI] at HIN HEA HK
        have HII : Hid (I = insE l (N, R)) := hI
        clear hI
        have hp0 : (0 : Int) ≤ (p : Int) := by omega
        by_cases hl0 : l.length = 0 ∧ ao = none
        · obtain ⟨h01, rfl⟩ := hl0
          obtain ⟨rfl, rfl⟩ := hr5.nil
          obtain rfl : p = 0 := by simpa using hple
          obtain ⟨w6, hw6⟩ : ∃ w6, w6 = (w5.alloc (.cells #[.slice none 0 0, .slice (some ⟨w4.heap.size, 0, none⟩) 1 1, .slice none 0 0] 26)).drew := ⟨_, rfl⟩
          have HCC := concat3 w5 w6 none (some ⟨w4.heap.size, 0, none⟩) none [] [(N, R)] [] 0 1 0 hw6 (rev_nil _) hlit (rev_nil _) (by simp)
          have HB6 : Hid (RowKit.Below v0.heap.size v0 w6) := by show RowKit.Below _ _ _; rw [hw6]; exact (below_then HB5.out (below_alloc _ _)).trans (below_drew _ _)
          rw [hs5] at HCC
          rw [hw5] at hw6
          clear hs5 hw5 hlit hr5 hp h01 hple hln hroom
          go_wp2_with fail
          go_region_held3 (fun w' => w'.cell? ⟨w.heap.size + 1, 0, none⟩ = some (.string ⟨N.toArray⟩) ∧ w'.cell? ⟨w.heap.size + 1, 1, none⟩ = some (.int .i64 R)) (go_keep) ((go_at_call 35; rw [← hw6]; refine HCC.mono ?_; rintro _ w7 ⟨ro, rc, L, hL, rfl, ho, hb7⟩; have hLI : L = I := (by rw [HIN.out]; exact hL); subst hLI; have HO7 : Hid (OwE w6.heap.size w7 ro L rc) := ho; have HB7 : Hid (RowKit.Below v0.heap.size v0 w7) := below_then HB6.out hb7; clear hL ho hb7; obtain ⟨q0, q1⟩ := HEN.out w7 HB7.out))
          clear q0 q1
          have hKK := HK.out w7 ro rc HO7.out.ren
          have hB6 := HB6.out.size
          have HS6 : Hid (w.heap.size ≤ w6.heap.size) := Nat.le_trans HB0.out.size hB6
          obtain ⟨x0, x1, x2, x3⟩ := HPAR.out w7 HB7.out
          by_cases hm : M < szE L
          · rw [if_pos hm] at hKK HEA
            clear hm
            go_wp2_with fail
            refine hKK.mono ?_
            rintro _ w8 ⟨rfl, h8⟩
            go_wp2
            go_ret2
            exact ⟨3, none, 0, [], HEA.out.symm, by rw [if_neg (by decide)], rfl, owe_nil _ _, below_then HB0.out (below_then HB7.out h8)⟩
          · rw [if_neg hm] at hKK HEA
            clear hm
            go_wp2_with fail
            refine hKK.mono ?_
            rintro _ w8 ⟨rfl, h8⟩
            go_wp2
            go_ret2
            exact ⟨0, ro, rc, L, HEA.out.symm, by rw [if_pos rfl]; exact HII.out, rfl, (HO7.out.below h8).mono HS6.out, below_then HB0.out (below_then HB7.out h8)⟩
        · obtain ⟨ad, rfl⟩ : ∃ ad, ao = some ad := by
            cases ao with
            | some ad => exact ⟨ad, rfl⟩
            | none => exact absurd ⟨by rw [hr5.nil.1]; rfl, rfl⟩ hl0
          have hr6 := hr5.fromA (p := p) hple
          obtain ⟨sa, hsa⟩ : ∃ sa, (if ca = p then some ad else some (ad.add (p * 2))) = sa := ⟨_, rfl⟩
          rw [hsa] at hr6
          have hr7 := hr5.uptoA (p := p) hple
          have hl1 : (l.take p).length = p := by rw [List.length_take]; omega
          have hl2 : (l.drop p).length = l.length - p := by rw [List.length_drop]
          obtain ⟨w6, hw6⟩ : ∃ w6, w6 = (w5.alloc (.cells #[.slice (some ad) p ca, .slice (some ⟨w4.heap.size, 0, none⟩) 1 1, .slice sa (l.length - p) (ca - p)] 26)).drew := ⟨_, rfl⟩
          have HCC := concat3 w5 w6 (some ad) (some ⟨w4.heap.size, 0, none⟩) sa (l.take p) [(N, R)] (l.drop p) ca 1 (ca - p) (by rw [hl1, hl2]; exact hw6) hr7 hlit hr6 (by simp; omega)
          have HB6 : Hid (RowKit.Below v0.heap.size v0 w6) := by show RowKit.Below _ _ _; rw [hw6]; exact (below_then HB5.out (below_alloc _ _)).trans (below_drew _ _)
          rw [hs5] at HCC
          rw [hw5] at hw6
          have i1 : (p : Int) ≤ (l.length : Int) := by omega
          have i2 : (l.length : Int) ≤ (ca : Int) := by omega
          have i3 : (p : Int) ≤ (ca : Int) := by omega
          clear hs5 hw5 hlit hr5 hr6 hr7 hl1 hl2 hp hl0
          go_wp2_with fail
          go_region_held3 (fun w' => w'.cell? ⟨w.heap.size + 1, 0, none⟩ = some (.string ⟨N.toArray⟩) ∧ w'.cell? ⟨w.heap.size + 1, 1, none⟩ = some (.int .i64 R)) (go_keep) ((go_at_call 35; rw [← hw6]; refine HCC.mono ?_; rintro _ w7 ⟨ro, rc, L, hL, rfl, ho, hb7⟩; have hLI : L = I := (by rw [HIN.out]; exact hL); subst hLI; have HO7 : Hid (OwE w6.heap.size w7 ro L rc) := ho; have HB7 : Hid (RowKit.Below v0.heap.size v0 w7) := below_then HB6.out hb7; clear hL ho hb7; obtain ⟨q0, q1⟩ := HEN.out w7 HB7.out))
          clear q0 q1
          have hKK := HK.out w7 ro rc HO7.out.ren
          have hB6 := HB6.out.size
          have HS6 : Hid (w.heap.size ≤ w6.heap.size) := Nat.le_trans HB0.out.size hB6
          obtain ⟨x0, x1, x2, x3⟩ := HPAR.out w7 HB7.out
          by_cases hm : M < szE L
          · rw [if_pos hm] at hKK HEA
            clear hm
            go_wp2_with fail
            refine hKK.mono ?_
            rintro _ w8 ⟨rfl, h8⟩
            go_wp2
            go_ret2
            exact ⟨3, none, 0, [], HEA.out.symm, by rw [if_neg (by decide)], rfl, owe_nil _ _, below_then HB0.out (below_then HB7.out h8)⟩
          · rw [if_neg hm] at hKK HEA
            clear hm
            go_wp2_with fail
            refine hKK.mono ?_
            rintro _ w8 ⟨rfl, h8⟩
            go_wp2
            go_ret2
            exact ⟨0, ro, rc, L, HEA.out.symm, by rw [if_pos rfl]; exact HII.out, rfl, (HO7.out.below h8).mono HS6.out, below_then HB0.out (below_then HB7.out h8)⟩
      · rw [hi] at hS
        have HI : Hid (isE l (N, R).1 = true) := hi
        clear hi
        go_wp2_with fail
        refine hS.mono ?_
        rintro _ w4 ⟨rfl, h4⟩
        go_wp2
        go_ret2
        exact ⟨7, none, 0, [], (erA_is H1.out HI.out).symm, by rw [if_neg (by decide)], rfl, owe_nil _ _, below_then HB0.out (below_then HB3.out h4)⟩
  · have hz : (erC e M q l != 0) = true := by simpa using he
    have HE : Hid (erC e M q l ≠ 0) := he
    obtain ⟨E, hE⟩ : ∃ E, E = erC e M q l := ⟨_, rfl⟩
    rw [← hE] at HC he hz HE ⊢
    clear hE
    go_enter Try.func11, Try.ntmps11
    go_wp2_with fail
    rw [HW.out]
    clear HW
    refine HC.mono ?_
    rintro _ w1 ⟨rfl, h1⟩
    go_wp2
    go_ret2
    exact ⟨E, none, 0, [], (erA_no HE.out).symm, by rw [if_neg HE.out], rfl, owe_nil _ _, below_then HB0.out h1⟩
end Go.Proofs.Ytfbfiecamaginaa
