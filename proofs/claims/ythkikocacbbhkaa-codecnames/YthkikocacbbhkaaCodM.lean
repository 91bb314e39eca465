/- The walk of the statement that parity is made by its rows, and that of a sum is the sum of both. -/
import Derived.Test.YthkikocacbbhkaaCodL
namespace Go.Proofs.Ythkikocacbbhkaa
open Go.RowKit

theorem errE_no (a : Bool) : errE a false ≠ 0 := by cases a <;> decide
theorem okEnc_true {ll : Nat} {L : Nat → Nat} {k r : Int} (h : okEnc ll L k r = true) : mayB k r = true ∧ okC ll L k = true ∧ k ≤ (cnt L ll : Int) := by
  unfold okEnc at h
  rw [Bool.and_eq_true, Bool.and_eq_true, decide_eq_true_eq] at h
  exact h
theorem encode_good {w w' : World} {k r : Int} {ll : Nat} {L : Nat → Nat} {H : M} {e : Ending} (hok : okEnc ll L k r = true) (h : Out w (okEnc ll L k r) (errE (mayB k r) (okEnc ll L k r)) r.toNat (len0 L ll) (par k.toNat H) e w') :
    ∃ (k' r' m : Nat) (ao : Option Addr) (cap : Nat) (T : Nat → Option Addr) (U : Nat → Nat), k = (k' : Int) ∧ r = (r' : Int) ∧ 1 ≤ k' ∧ k' ≤ 12 ∧ r' ≤ 4 ∧ ll = k' ∧ 1 ≤ m ∧ m ≤ 65536 ∧ (∀ i, i < k' → L i = m) ∧ e = .returned (.tuple #[.slice ao r' cap, .int .i64 0]) ∧ Copied w' w.heap.size r' (.slice ao r' cap) T (fun _ => m) U (par k' H) ∧ Below w.heap.size w w' := by
  obtain ⟨h1, h2, h3⟩ := okEnc_true hok
  obtain ⟨g1, g2, g3, g4⟩ := mayB_true h1
  obtain ⟨hll, hT⟩ := okC_true h2
  obtain ⟨k, rfl⟩ := Int.eq_ofNat_of_zero_le (show 0 ≤ k by omega)
  obtain ⟨r, rfl⟩ := Int.eq_ofNat_of_zero_le g3
  obtain rfl : ll = k := by omega
  obtain ⟨m1, m2, m3⟩ := alike_of hT (by omega)
  rw [hok, h1, Int.toNat_natCast, Int.toNat_natCast] at h
  obtain ⟨ao, cap, T, U, he, hc, hb⟩ := h
  exact ⟨ll, r, _, ao, cap, T, U, rfl, rfl, by omega, by omega, by omega, rfl, m1, m2, fun i hi => (m3 i hi).resolve_left (all_there (by omega) i hi), he, hc, hb⟩
theorem encode_const (w : World) (k r m cl : Nat) (lo : Option Addr) (A : Nat → Option Addr) (C : Nat → Nat) (H : M) (hk1 : 1 ≤ k) (hk : k ≤ 12) (hr : r ≤ 4) (hm1 : 1 ≤ m) (hm : m ≤ 65536) (hl : Lst w lo k A C (fun _ => m) H) :
    Calls Try.prog 9 #[.int .i64 (k : Int), .int .i64 (r : Int), .slice lo k cl] w fun e w' => ∃ ao cap T U, e = .returned (.tuple #[.slice ao r cap, .int .i64 0]) ∧ Copied w' w.heap.size r (.slice ao r cap) T (fun _ => m) U (par k H) ∧ Below w.heap.size w w' := by
  have HE := Encode_any w k r lo k cl A C _ H hl
  have h1 : mayB k r = true := decide_eq_true (by omega)
  have h2 : okEnc k (fun _ => m) k r = true := by
    unfold okEnc okC
    rw [h1, okT_const (by omega) hm, cnt_const (by omega)]
    simp
  rw [h1, h2, Int.toNat_natCast, Int.toNat_natCast, len0_const (by omega) k (by omega)] at HE
  exact HE
theorem row_good (w : World) (k r c : Nat) (hk1 : 1 ≤ k) (hk : k ≤ 12) (hr : r ≤ 4) (hc : c < k + r) :
    Calls Try.prog 14 #[.int .i64 (k : Int), .int .i64 (r : Int), .int .i64 (c : Int)] w fun e w' => ∃ g u, e = .returned (.tuple #[.slice (some ⟨g, 0, none⟩) k u, .int .i64 0]) ∧ Own w' g k u (gen k c) ∧ Below w.heap.size w w' := by
  have HR := Row_any w k r c
  have h1 : okRow k r c = true := by
    unfold okRow
    rw [show mayB k r = true from decide_eq_true (by omega)]
    simp; omega
  rw [h1, Int.toNat_natCast, Int.toNat_natCast] at HR
  refine HR.mono ?_
  rintro e w' ⟨ao, cap, rfl, hs, hb⟩
  rcases hs with ⟨_, h0, _⟩ | ⟨g, rfl, _, _, ho⟩
  · exact absurd (show k = 0 from h0) (by omega)
  · exact ⟨g, cap, rfl, ho, hb⟩
/-- Sums of cells, byte by byte. -/
def addM (D E : M) : M := fun j b => K.add (D j b) (E j b)
theorem par_add (k : Nat) (D E : M) (i b : Nat) : par k (addM D E) i b = K.add (par k D i b) (par k E i b) := enc_add k D E (k + i) b
theorem Lst.len' {w : World} {lo : Option Addr} {ll m : Nat} {A : Nat → Option Addr} {C L : Nat → Nat} {H : M} (h : Lst w lo ll A C L H) (e : ∀ i, i < ll → L i = m) : Lst w lo ll A C (fun _ => m) H :=
  ⟨fun i hi => by have := h.rd i hi; rwa [e i hi] at this, fun hp => by
    obtain ⟨b, off, rfl, hc⟩ := h.at_ hp
    exact ⟨b, off, rfl, fun i hi => by rw [hc i hi, e i hi]⟩⟩

set_option maxHeartbeats 4000000 in
set_option maxRecDepth 100000 in
theorem rows_walk (w : World) (k r : Int) (lo so : Option Addr) (ll cl sl sc : Nat) (A B : Nat → Option Addr) (C L D S : Nat → Nat) (H F : M) (hl : Lst w lo ll A C L H) (hs : Lst w so sl B D S F) :
    Calls Try.prog 6 #[.int .i64 k, .int .i64 r, .slice lo ll cl, .slice so sl sc] w fun e w' => e = .returned (.bool true) ∧ Below w.heap.size w w' := by
  obtain ⟨j0, hj, hj0, hj1, hj2⟩ := info_parts info23c
  have HL : Hid (Lst w lo ll A C L H) := hl
  have HS : Hid (Lst w so sl B D S F) := hs
  clear hl hs
  go_enter Try.func6, Try.ntmps6
  go_wp2_with fail
  refine (alive_any w).mono ?_
  rintro e w1 ⟨rfl, b1⟩
  replace HL : Hid (Lst w1 lo ll A C L H) := HL.out.below b1
  replace HS : Hid (Lst w1 so sl B D S F) := HS.out.below b1
  go_wp2_with fail
  refine (much_any w1 lo ll cl A C L H HL.out).mono ?_
  rintro e w' ⟨rfl, hw'⟩
  obtain rfl := hw'.symm
  cases hfew : fewB ll L
  · go_wp2_with fail
    go_ret
    exact ⟨rfl, b1⟩
  clear hfew
  go_wp2_with fail
  refine (much_any w1 so sl sc B D S F HS.out).mono ?_
  rintro e w' ⟨rfl, hw'⟩
  obtain rfl := hw'.symm
  cases hfew : fewB sl S
  · go_wp2_with fail
    go_ret
    exact ⟨rfl, b1⟩
  clear hfew
  go_wp2_with fail
  refine (Encode_any w1 k r lo ll cl A C L H HL.out).mono ?_
  cases hok : okEnc ll L k r
  · obtain ⟨err, herr⟩ : ∃ err, err = errE (mayB k r) false := ⟨_, rfl⟩
    have hne : (err != 0) = true := by rw [herr]; exact bne_iff_ne.2 (errE_no _)
    rw [← herr]
    clear herr hok
    rintro e w2 ⟨ao, cap, T, U, rfl, _, b2⟩
    replace b1 := below_step b1 b2 b1.size
    clear b2
    go_wp2_with fail
    go_ret
    exact ⟨rfl, b1⟩
  rw [← hok]
  intro e w2 h2
  obtain ⟨k, r, m, po, pc, T, U, rfl, rfl, hk1, hk, hr, rfl, hm1, hm2, hLm, rfl, hcop, b2⟩ := encode_good hok h2
  replace HL : Hid (Lst w2 lo ll A C (fun _ => m) H) := (HL.out.below b2).len' hLm
  replace HS : Hid (Lst w2 so sl B D S F) := HS.out.below b2
  have HP : Hid (Lst w2 po r T U (fun _ => m) (par ll H)) := hcop.lst
  replace b1 := below_step b1 b2 b1.size
  clear h2 hok hcop b2 hLm
  go_wp2_with fail
  go_loopw [12] (fun x wr => ∃ i : Nat, i ≤ r ∧ x = .int .i64 i ∧ Hid (Below w2.heap.size w2 wr)) (fun x _ => r - (intOf x).toNat)
  case atStart => exact ⟨0, Nat.zero_le _, rfl, Below.refl _ _⟩
  case round =>
    obtain ⟨i, hi, rfl, hbel⟩ := hrel
    by_cases hlt : i < r
    · have HR := row_good wr ll r (ll + i) hk1 hk hr (by omega)
      rw [Int.natCast_add] at HR
      go_wp2_with fail
      refine HR.mono ?_
      rintro e w3 ⟨g, u, rfl, ho, b3⟩
      have bb : Below w2.heap.size w2 w3 := below_step hbel.out b3 hbel.out.size
      have HD := dot_k w3 (some ⟨g, 0, none⟩) lo ll u cl m (gen ll (ll + i)) A C (fun _ => m) H hk1 (by omega) hm1 hm2 ho.rd (HL.out.below bb) (fun _ _ => rfl)
      clear HR ho
      go_wp2_with fail
      refine HD.mono ?_
      rintro e w4 ⟨g4, rfl, _, ho4, b4⟩
      have bb4 : Below w2.heap.size w2 w4 := below_step bb b4 bb.size
      obtain ⟨b, off, rfl, hcl⟩ := (HP.out.below bb4).at_ (by omega)
      have ck := hcl i hlt
      have v1 : ∀ q, (convert 23 9 (.slice (some ⟨g4, 0, none⟩) m m)).run Try.prog (w4.drewN q) = .ok (.string (str m (par ll H i))) (w4.drewN q) := fun q => conv_any (w := w4.drewN q) ho4.rd m
      have v2 : ∀ q, (convert 23 9 (.slice (T i) m (U i))).run Try.prog (w4.drewN q) = .ok (.string (str m (par ll H i))) (w4.drewN q) := fun q => conv_any (w := w4.drewN q) ((HP.out.below bb4).rd i hlt) (U i)
      have HB4 : Hid (Below w2.heap.size w2 w4) := bb4
      clear HD hcl ho4 b4 bb bb4 b3
      have i1 : (0 : Int) ≤ (i : Int) := by omega
      have i2 : (i : Int) < (r : Int) := by omega
      go_wp2
      go_quiet (fail)
      go_wp2
      go_roundw
      case rel => exact ⟨i + 1, by omega, by go_num, (below_step HB4.out (below_drewN _ _ _) HB4.out.size)⟩
      case measure => simp [intOf]; omega
    · replace HL : Hid (Lst wr lo ll A C (fun _ => m) H) := HL.out.below hbel.out
      replace HS : Hid (Lst wr so sl B D S F) := HS.out.below hbel.out
      replace HP : Hid (Lst wr po r T U (fun _ => m) (par ll H)) := HP.out.below hbel.out
      have HB : Hid (Below w.heap.size w wr) := below_step b1 hbel.out b1.size
      obtain ⟨wm, rfl⟩ : ∃ x, x = wr := ⟨wr, rfl⟩
      clear hbel b1
      go_wp2_with fail
      refine (Encode_any wm ll r so sl sc B D S F HS.out).mono ?_
      cases hok : okEnc sl S ll r
      · obtain ⟨err, herr⟩ : ∃ err, err = errE (mayB ll r) false := ⟨_, rfl⟩
        have hne : (err != 0) = true := by rw [herr]; exact bne_iff_ne.2 (errE_no _)
        rw [← herr]
        clear herr hok
        rintro e w5 ⟨ao, cap, T', U', rfl, _, b2⟩
        have HB5 : Hid (Below w.heap.size w w5) := below_step HB.out b2 HB.out.size
        clear b2
        go_wp2_with fail
        go_quiet (fail)
        go_wp2
        go_ret
        exact ⟨rfl, below_step HB5.out (below_drewN _ _ _) HB5.out.size⟩
      rw [← hok]
      intro e w5 h5
      obtain ⟨k', r', m', qo, qc, T', U', e1, e2, _, _, _, hsl, hm1', hm2', hSm, rfl, hcop', b5⟩ := encode_good hok h5
      obtain rfl : ll = k' := by omega
      obtain rfl : r = r' := by omega
      subst hsl
      replace HS : Hid (Lst w5 so sl B D (fun _ => m') F) := (HS.out.below b5).len' hSm
      replace HL : Hid (Lst w5 lo sl A C (fun _ => m) H) := HL.out.below b5
      replace HP : Hid (Lst w5 po r T U (fun _ => m) (par sl H)) := HP.out.below b5
      have HQ : Hid (Lst w5 qo r T' U' (fun _ => m') (par sl F)) := hcop'.lst
      replace HB : Hid (Below w.heap.size w w5) := below_step HB.out b5 HB.out.size
      clear h5 hok hcop' b5 hSm e1 e2
      obtain ⟨bl, ol, rfl, hcl⟩ := HL.out.at_ (by omega)
      obtain ⟨bs, os, rfl, hcs⟩ := HS.out.at_ (by omega)
      have a0 := hcl 0 (by omega)
      have s0 := hcs 0 (by omega)
      rw [Nat.add_zero] at a0 s0
      have i0 : 0 < sl := by omega
      have i1 : (0 : Int) < (sl : Int) := by omega
      clear hcl hcs
      by_cases hmm : m' = m
      · subst hmm
        have hbn : ((m' : Int) != (m' : Int)) = false := by simp
        go_wp2_with fail
        go_quiet (fail)
        replace HS : Hid (Lst (w5.drewN nq) (some ⟨bs, os, none⟩) sl B D (fun _ => m') F) := HS.out.below (below_drewN _ _ _)
        replace HL : Hid (Lst (w5.drewN nq) (some ⟨bl, ol, none⟩) sl A C (fun _ => m') H) := HL.out.below (below_drewN _ _ _)
        replace HP : Hid (Lst (w5.drewN nq) po r T U (fun _ => m') (par sl H)) := HP.out.below (below_drewN _ _ _)
        replace HQ : Hid (Lst (w5.drewN nq) qo r T' U' (fun _ => m') (par sl F)) := HQ.out.below (below_drewN _ _ _)
        replace HB : Hid (Below w.heap.size w (w5.drewN nq)) := below_step HB.out (below_drewN _ _ _) HB.out.size
        clear a0 s0
        generalize w5.drewN nq = wq at *
        go_wp2_with fail
        go_loopw [18, 19] (fun v x wr => ∃ i : Nat, i ≤ sl ∧ x = .int .i64 i ∧ (∃ ao cap, v = .slice ao i cap) ∧ Hid (∃ T U, Copied wr wq.heap.size i v T (fun _ => m') U (addM H F)) ∧ Hid (Below wq.heap.size wq wr)) (fun _ x _ => sl - (intOf x).toNat)
        case atStart => exact ⟨0, Nat.zero_le _, rfl, ⟨none, 0, rfl⟩, ⟨fun _ => none, fun _ => 0, Copied.start _ _ _ _ _ _⟩, Below.refl _ _⟩
        case round =>
          obtain ⟨i, hi, rfl, ⟨ao, cap, rfl⟩, hcop, hbel⟩ := hrel
          by_cases hlt : i < sl
          · obtain ⟨Ti, Ui, hcp⟩ := hcop.out
            have HCP : Hid (Copied wr wq.heap.size i (.slice ao i cap) Ti (fun _ => m') Ui (addM H F)) := hcp
            have hbw := hbel.out.size
            obtain ⟨XS, hXS⟩ : ∃ X, X = rowsOf i Ti (fun _ => m') Ui := ⟨_, rfl⟩
            have HXS : Hid (rowsOf i Ti (fun _ => m') Ui = XS) := hXS.symm
            obtain ⟨_, _, e3, hcl⟩ := (HL.out.below hbel.out).at_ (by omega)
            cases e3
            obtain ⟨_, _, e4, hcs⟩ := (HS.out.below hbel.out).at_ (by omega)
            cases e4
            have ck := hcl i hlt
            have cs := hcs i hlt
            have HX := xor_any wr.drew (A i) (B i) m' (C i) (D i) (H i) (F i) hm1 hm2 (((HL.out.below hbel.out).rd i hlt).below (below_drew _ wr)) (((HS.out.below hbel.out).rd i hlt).below (below_drew _ wr))
            have HXX : Hid (Calls Try.prog 22 #[.slice (A i) m' (C i), .slice (B i) m' (D i)] wr.drew (New wr.drew m' (addM H F i))) := HX
            clear hcop hcp hXS hcl hcs HX
            have j1 : (0 : Int) ≤ (i : Int) := by omega
            have j2 : (i : Int) < (sl : Int) := by omega
            go_wp2
            go_region_held3 (fun w' => w'.cell? ⟨bl, ol + i, none⟩ = some (.slice (A i) m' (C i)) ∧ w'.cell? ⟨bs, os + i, none⟩ = some (.slice (B i) m' (D i))) (go_keep)
              ((go_at_call 22; refine HXX.out.mono ?_; rintro e w2' ⟨g2, rfl, hg2, ho2, hb2⟩; have k1 : w2'.cell? ⟨bl, ol + i, none⟩ = some (.slice (A i) m' (C i)) := held (w := wr.drew) ck hb2; have k2 : w2'.cell? ⟨bs, os + i, none⟩ = some (.slice (B i) m' (D i)) := held (w := wr.drew) cs hb2))
            have HO2 : Hid (Own w2' g2 m' m' (addM H F i)) := ho2
            have HB2 : Hid (Below wr.heap.size wr w2') := below_step (below_drew _ wr) hb2 (Nat.le_refl _)
            have HC2 : Hid (Copied w2' wq.heap.size i (.slice ao i cap) Ti (fun _ => m') Ui (addM H F)) := HCP.out.stay (Stay.of_below HB2.out)
            have HOV : Hid (w2'.ownsRow wq.heap.size 23 1 (.slice ao i cap) i XS) := by rw [← HXS.out]; exact HC2.out.out
            have hs2 : wq.heap.size ≤ w2'.heap.size := Nat.le_trans hbw HB2.out.size
            clear ho2 hb2 HXX ck cs k1 k2
            go_wp2_with (first
              | (at_builtin; refine wpList_append_lies _ (by rfl) (.tmp 119) (.tmp 121) 24 (by rfl) wq.heap.size 23 j0 (.slice none 0 0) 1 24 Try.underlying24 hj hj0 hj1 hj2 (by rfl) (by decide) (.slice ao i cap) i XS (by rfl) (HOV.out.alloc _) ⟨w2'.heap.size, 0, none⟩ 1 1 [.slice (some ⟨g2, 0, none⟩) m' m'] (by rfl) (by rfl) (World.news_of_block (heap_alloc_new w2' _)) (by simp [Value.oneCell']) (by decide) (by unfold maxLen; omega) (by omega) (by simp; omega) (w2'.heap.size + 1) (by simp) ?_; intro g3 cap3 w3 hown3 hgrow3 _ _))
            have HC3 : Hid (∃ T U, Copied w3 wq.heap.size (i + 1) (.slice (some ⟨g3, 0, none⟩) (i + 1) cap3) T (fun _ => m') U (addM H F)) := by
              have hg2' : wr.heap.size ≤ g2 := hg2
              have hp := HC2.out.push (owns_base (own_owns HO2.out) (by omega)) (fun x a b hx ea eb => by
                have := HCP.out.old hx ea
                cases eb
                show a.block ≠ g2
                omega) hgrow3 (by rw [HXS.out]; exact hown3)
              exact ⟨_, _, hp.congr (fun _ _ => rfl) (fun x _ => put_self i x (fun _ => m')) (fun _ _ => rfl) (fun x _ => put_self i x (addM H F))⟩
            have HB3 : Hid (Below wq.heap.size wq w3) := ((below_step hbel.out HB2.out hbw).alloc hs2 _).grown hgrow3 (by simp; omega) (fun q hq => (HOV.out.lt q hq).1)
            clear hown3 hgrow3
            go_roundw
            case rel => exact ⟨i + 1, by omega, by go_num, ⟨_, _, rfl⟩, HC3, HB3⟩
            case measure => simp [intOf]; omega
          · obtain rfl : i = sl := by omega
            obtain ⟨Ti, Ui, hcp⟩ := hcop.out
            have HE := encode_const wr i r m' cap ao Ti Ui (addM H F) hk1 hk hr hm1 hm2 hcp.lst
            replace HP : Hid (Lst wr po r T U (fun _ => m') (par i H)) := HP.out.below hbel.out
            replace HQ : Hid (Lst wr qo r T' U' (fun _ => m') (par i F)) := HQ.out.below hbel.out
            replace HB : Hid (Below w.heap.size w wr) := below_step HB.out hbel.out HB.out.size
            obtain ⟨wt, rfl⟩ : ∃ x, x = wr := ⟨wr, rfl⟩
            clear hcop hcp hbel HL HS
            go_wp2_with fail
            refine HE.mono ?_
            rintro e w7 ⟨so7, sc7, T7, U7, rfl, hc7, b7⟩
            have HS7 : Hid (Lst w7 so7 r T7 U7 (fun _ => m') (par i (addM H F))) := hc7.lst
            replace HP : Hid (Lst w7 po r T U (fun _ => m') (par i H)) := HP.out.below b7
            replace HQ : Hid (Lst w7 qo r T' U' (fun _ => m') (par i F)) := HQ.out.below b7
            replace HB : Hid (Below w.heap.size w w7) := below_step HB.out b7 HB.out.size
            clear hc7 b7 HE
            go_wp2_with fail
            go_loopw [23] (fun x wr => ∃ t : Nat, t ≤ r ∧ x = .int .i64 t ∧ Hid (Below w7.heap.size w7 wr)) (fun x _ => r - (intOf x).toNat)
            case atStart => exact ⟨0, Nat.zero_le _, rfl, Below.refl _ _⟩
            case round =>
              obtain ⟨t, ht, rfl, hbel⟩ := hrel
              by_cases hlt : t < r
              · obtain ⟨bp, op, rfl, hcp⟩ := (HP.out.below hbel.out).at_ (by omega)
                obtain ⟨bq, oq, rfl, hcq⟩ := (HQ.out.below hbel.out).at_ (by omega)
                have ck := hcp t hlt
                have cs := hcq t hlt
                have HX := xor_any wr.drew (T t) (T' t) m' (U t) (U' t) (par i H t) (par i F t) hm1 hm2 (((HP.out.below hbel.out).rd t hlt).below (below_drew _ wr)) (((HQ.out.below hbel.out).rd t hlt).below (below_drew _ wr))
                have HXX : Hid (Calls Try.prog 22 #[.slice (T t) m' (U t), .slice (T' t) m' (U' t)] wr.drew (New wr.drew m' (fun b => K.add (par i H t b) (par i F t b)))) := HX
                clear hcp hcq HX
                have j1 : (0 : Int) ≤ (t : Int) := by omega
                have j2 : (t : Int) < (r : Int) := by omega
                go_wp2
                go_region_held3 (fun w' => w'.cell? ⟨bp, op + t, none⟩ = some (.slice (T t) m' (U t)) ∧ w'.cell? ⟨bq, oq + t, none⟩ = some (.slice (T' t) m' (U' t))) (go_keep)
                  ((go_at_call 22; refine HXX.out.mono ?_; rintro e w8 ⟨g8, rfl, hg8, ho8, hb8⟩; have k1 : w8.cell? ⟨bp, op + t, none⟩ = some (.slice (T t) m' (U t)) := held (w := wr.drew) ck hb8; have k2 : w8.cell? ⟨bq, oq + t, none⟩ = some (.slice (T' t) m' (U' t)) := held (w := wr.drew) cs hb8))
                have bb8 : Below w7.heap.size w7 w8 := below_step (below_step hbel.out (below_drew _ wr) hbel.out.size) hb8 hbel.out.size
                obtain ⟨b, off, rfl, hcl⟩ := (HS7.out.below bb8).at_ (by omega)
                have c7 := hcl t hlt
                have v1 : ∀ q, (convert 23 9 (.slice (some ⟨g8, 0, none⟩) m' m')).run Try.prog (w8.drewN q) = .ok (.string (str m' (par i (addM H F) t))) (w8.drewN q) := fun q => by
                  rw [str_congr (h := fun b => K.add (par i H t b) (par i F t b)) (fun b _ => par_add i H F t b)]
                  exact conv_any (w := w8.drewN q) ho8.rd m'
                have v2 : ∀ q, (convert 23 9 (.slice (T7 t) m' (U7 t))).run Try.prog (w8.drewN q) = .ok (.string (str m' (par i (addM H F) t))) (w8.drewN q) := fun q => conv_any (w := w8.drewN q) ((HS7.out.below bb8).rd t hlt) (U7 t)
                have HB8 : Hid (Below w7.heap.size w7 w8) := bb8
                clear hcl ho8 hb8 bb8 HXX ck cs k1 k2
                go_wp2
                go_quiet (fail)
                go_wp2
                go_roundw
                case rel => exact ⟨t + 1, by omega, by go_num, below_step HB8.out (below_drewN _ _ _) HB8.out.size⟩
                case measure => simp [intOf]; omega
              · go_wp2
                go_ret
                exact ⟨rfl, below_step HB.out hbel.out HB.out.size⟩
      · have hbn : ((m' : Int) != (m : Int)) = true := by simp; omega
        clear hmm
        go_wp2_with fail
        go_quiet (fail)
        go_wp2
        go_ret
        exact ⟨rfl, below_step HB.out (below_drewN _ _ _) HB.out.size⟩
end Go.Proofs.Ythkikocacbbhkaa
