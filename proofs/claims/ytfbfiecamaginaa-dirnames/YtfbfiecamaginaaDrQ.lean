/- Root, by both. -/
import Derived.Test.YtfbfiecamaginaaDrP
namespace Go.Proofs.Ytfbfiecamaginaa
open Go.RowKit Go.Sort

theorem rts_take {L : List Int} {i : Nat} (h : i < L.length) : rts (L.take (i + 1)) = rts (L.take i) ++ rb (L.getD i 0) := by
  rw [List.take_succ_eq_append_getElem h, List.getD_eq_getElem?_getD, List.getElem?_eq_getElem h]
  simp only [rts, List.flatMap_append, List.flatMap_cons, List.flatMap_nil, List.append_nil]
  rfl
theorem inR_get {q R : Int} (h : inR q R = true) : 0 ≤ R ∧ R < q := by
  unfold inR at h
  simpa using h
theorem erT_no {e q : Int} {L : List Int} (h : e ≠ 0) : erT e q L = e := by unfold erT; rw [if_neg h]
theorem erT_bad {q : Int} {L : List Int} (h : okT q L = false) : erT 0 q L = 220 := by unfold erT; rw [if_pos rfl, h]; rfl
theorem erT_good {q : Int} {L : List Int} (h : okT q L = true) : erT 0 q L = 0 := by unfold erT; rw [if_pos rfl, h]; rfl
set_option maxHeartbeats 2000000 in
set_option maxRecDepth 100000 in
theorem Root_any {k r c q : Int} {M : Nat} {e : Int} (hp : PP k r c q M e) (w : World) (ao : Option Addr) (L : List Int) (ca : Nat) (hv : Rei w ao L ca) (hn : L.length ≤ 1000000) :
    Calls Try.prog 15 #[.agg #[.int .i64 k, .int .i64 r, .int .i64 c, .int .i64 q], .slice ao L.length ca] w fun e' w' =>
      ∃ E bo cb b, E = erT e q L ∧ b = (if E = 0 then rts L else []) ∧ e' = .returned (.tuple #[.slice bo b.length cb, .int .i64 E]) ∧ OwB w.heap.size w' bo b cb ∧ RowKit.Below w.heap.size w w' := by
  obtain ⟨w0, hw0⟩ : ∃ w0, w0 = w.alloc (.cells #[.int .i64 k, .int .i64 r, .int .i64 c, .int .i64 q] 24) := ⟨_, rfl⟩
  have b0 : RowKit.Below w.heap.size w w0 := by rw [hw0]; exact below_alloc _ _
  have HPAR : Hid (∀ v, RowKit.Below w0.heap.size w0 v → v.cell? ⟨w.heap.size, 0, none⟩ = some (.int .i64 k) ∧ v.cell? ⟨w.heap.size, 1, none⟩ = some (.int .i64 r) ∧ v.cell? ⟨w.heap.size, 2, none⟩ = some (.int .i64 c) ∧ v.cell? ⟨w.heap.size, 3, none⟩ = some (.int .i64 q)) := fun v hv => par_held hw0 hv
  have HV : Hid (Rei w0 ao L ca) := hv.below b0
  have HB0 : Hid (RowKit.Below w.heap.size w w0) := b0
  have HC := hp.chk
  have HQ : Hid (e = 0 → 8 ≤ q ∧ q ≤ 256) := hp.rows
  obtain ⟨x0, x1, x2, x3⟩ := HPAR.out w0 (Below.refl _ _)
  have HO : Hid (∀ u, RowKit.Below w0.heap.size w0 u → Calls Try.prog 40 #[.agg #[.int .i64 k, .int .i64 r, .int .i64 c, .int .i64 q], .slice ao L.length ca] u fun e w' => e = .returned (.bool (okT q L)) ∧ RowKit.Below u.heap.size u w') := fun u hu => ofBuckets_any k r c q u ao L ca (HV.out.below hu) hn
  clear hv b0 hp
  by_cases he : e = 0
  · subst he
    go_enter Try.func15, Try.ntmps15
    go_wp2_with fail
    rw [← hw0]
    clear hw0
    refine (HC _).mono ?_
    rintro _ w1 ⟨rfl, h1⟩
    have HB1 : Hid (RowKit.Below w0.heap.size w0 w1) := h1
    have hO := HO.out w1 h1
    clear h1 HC x0 x1 x2 x3
    obtain ⟨x0, x1, x2, x3⟩ := HPAR.out w1 HB1.out
    cases hm : okT q L
    · rw [hm] at hO
      have HM : Hid (okT q L = false) := hm
      clear hm
      go_wp2_with fail
      refine hO.mono ?_
      rintro _ w2 ⟨rfl, h2⟩
      go_wp2
      go_ret2
      exact ⟨220, none, 0, [], (erT_bad HM.out).symm, by rw [if_neg (by decide)], rfl, owb_nil _ _, below_then HB0.out (below_then HB1.out h2)⟩
    · rw [hm] at hO
      have HM : Hid (okT q L = true) := hm
      have hm2 := hm
      unfold okT at hm2
      rw [Bool.and_eq_true] at hm2
      have h4 : L.length = 4 := by simpa using hm2.2
      have HR : Hid (∀ i, i < L.length → 0 ≤ L.getD i 0 ∧ L.getD i 0 < 65536) := fun i hi => by
        have := inR_get ((allR_iff q L).1 hm2.1 i hi)
        have := HQ.out (by trivial)
        omega
      have HS : Hid (∀ i, i < L.length → rts (L.take (i + 1)) = rts (L.take i) ++ rb (L.getD i 0)) := fun i hi => rts_take hi
      have HZ : Hid (∀ i, (rts (L.take i)).length ≤ 8) := fun i => by rw [rts_length, List.length_take]; omega
      have HA : Hid (rts (L.take L.length) = rts L) := by show _ = _; rw [List.take_length]
      have hn2 : (L.length : Int) ≤ 4 := by omega
      clear hm hm2 h4 hn
      go_wp2_with fail
      refine hO.mono ?_
      rintro _ w2 ⟨rfl, h2⟩
      have HB2 : Hid (RowKit.Below w0.heap.size w0 w2) := below_then HB1.out h2
      clear h2 hO x0 x1 x2 x3
      go_wp2_with fail
      go_loopw [7, 21] (fun v x wr => ∃ (i : Nat) (bo : Option Addr) (cb : Nat) (b : List UInt8), i ≤ L.length ∧ x = .int .i64 (i : Int) ∧ v = .slice bo b.length cb ∧ Hid (b = rts (L.take i)) ∧ Hid (OwB w0.heap.size wr bo b cb) ∧ Hid (RowKit.Below w0.heap.size w0 wr)) (fun _ x _ => L.length - (intOf x).toNat)
      case atStart => exact ⟨0, none, 0, [], Nat.zero_le _, rfl, rfl, rfl, owb_nil _ _, HB2⟩
      case round =>
        obtain ⟨i, bo, cb, b, hi, rfl, rfl, hb, hown, hbel⟩ := hrel
        by_cases hlt : i < L.length
        · obtain ⟨g, off, rfl, hc⟩ := (HV.out.below hbel.out).at_ (by omega)
          have c0 := hc i hlt
          obtain ⟨r1, r2⟩ := HR.out i hlt
          have HBB : Hid (b ++ rb (L.getD i 0) = rts (L.take (i + 1))) := by show _ = _; rw [HS.out i hlt, hb.out]
          have hbl := HZ.out i
          rw [← hb.out] at hbl
          obtain ⟨R, hR⟩ : ∃ R, R = L.getD i 0 := ⟨_, rfl⟩
          rw [← hR] at c0 r1 r2 HBB
          have i1 : (0 : Int) ≤ (i : Int) := by omega
          have i2 : (i : Int) < (L.length : Int) := by omega
          have hap := appendRow_any w0.heap.size wr hbel.out.size bo b cb hown.out (by omega) R r1 r2
          clear hc hR
          go_wp2_with fail
          refine hap.mono ?_
          rintro _ v5 ⟨bo5, cb5, b5, hb5, rfl, hown5, hB5⟩
          have HL5 : Hid (b5 = b ++ rb R) := hb5
          clear hb5 hap
          go_wp2
          go_roundw
          case rel => exact ⟨i + 1, bo5, cb5, b5, by omega, by go_num, rfl, by show _ = _; rw [← HBB.out, HL5.out], hown5, hbel.out.trans hB5⟩
          case measure => simp [intOf]; omega
        · obtain rfl : i = L.length := by omega
          have HLE : Hid (b = rts L) := by show _ = _; rw [hb.out, HA.out]
          go_wp2
          go_ret2
          exact ⟨0, bo, cb, b, (erT_good HM.out).symm, by rw [if_pos rfl]; exact HLE.out, rfl, hown.out.mono HB0.out.size, below_then HB0.out hbel.out⟩
  · have hz : (e != 0) = true := by simpa using he
    have HE : Hid (e ≠ 0) := he
    clear he
    go_enter Try.func15, Try.ntmps15
    go_wp2_with fail
    rw [← hw0]
    clear hw0
    refine (HC _).mono ?_
    rintro _ w1 ⟨rfl, h1⟩
    go_wp2
    go_ret2
    exact ⟨e, none, 0, [], (erT_no HE.out).symm, by rw [if_neg HE.out], rfl, owb_nil _ _, below_then HB0.out h1⟩
set_option maxHeartbeats 4000000 in
set_option maxRecDepth 100000 in
theorem RRoot_any {k r c q : Int} {M : Nat} {e : Int} (hp : PP k r c q M e) (w : World) (ao : Option Addr) (L : List Int) (ca : Nat) (hv : Rei w ao L ca) (_hn : L.length ≤ 1000000) :
    Calls Try.prog 29 #[.agg #[.int .i64 k, .int .i64 r, .int .i64 c, .int .i64 q], .slice ao L.length ca] w fun e' w' =>
      ∃ E bo cb b, E = erT e q L ∧ b = (if E = 0 then rts L else []) ∧ e' = .returned (.tuple #[.slice bo b.length cb, .int .i64 E]) ∧ OwB w.heap.size w' bo b cb ∧ RowKit.Below w.heap.size w w' := by
  obtain ⟨w0, hw0⟩ : ∃ w0, w0 = w.alloc (.cells #[.int .i64 k, .int .i64 r, .int .i64 c, .int .i64 q] 24) := ⟨_, rfl⟩
  have b0 : RowKit.Below w.heap.size w w0 := by rw [hw0]; exact below_alloc _ _
  have HPAR : Hid (∀ v, RowKit.Below w0.heap.size w0 v → v.cell? ⟨w.heap.size, 0, none⟩ = some (.int .i64 k) ∧ v.cell? ⟨w.heap.size, 1, none⟩ = some (.int .i64 r) ∧ v.cell? ⟨w.heap.size, 2, none⟩ = some (.int .i64 c) ∧ v.cell? ⟨w.heap.size, 3, none⟩ = some (.int .i64 q)) := fun v hv => par_held hw0 hv
  have HV : Hid (Rei w0 ao L ca) := hv.below b0
  have HB0 : Hid (RowKit.Below w.heap.size w w0) := b0
  have HC := hp.rmay
  have HQ : Hid (e = 0 → 8 ≤ q ∧ q ≤ 256) := hp.rows
  have HER : Hid (e = 0 ∨ e = 2) := hp.er
  obtain ⟨x0, x1, x2, x3⟩ := HPAR.out w0 (Below.refl _ _)
  clear hv b0 hp
  by_cases he : e = 0
  · subst he
    simp only [decide_true] at HC
    by_cases h4 : L.length = 4
    · have HY : Hid ((∀ i, i < 4 → inR q (L.getD i 0) = true) → okT q L = true) := fun h => by unfold okT; rw [(allR_iff q L).2 (by rw [h4]; exact h)]; simp [h4]
      have HN : Hid (∀ i, i < 4 → inR q (L.getD i 0) = false → okT q L = false) := fun i hi g => by unfold okT; rw [allR_no (by omega) g]; rfl
      have HS : Hid (∀ i, i < 4 → rts (L.take (i + 1)) = rts (L.take i) ++ rb (L.getD i 0)) := fun i hi => rts_take (by omega)
      have HZ : Hid (∀ i, (rts (L.take i)).length ≤ 8) := fun i => by rw [rts_length, List.length_take]; omega
      have HA : Hid (rts (L.take 4) = rts L) := by show _ = _; rw [← h4, List.take_length]
      have hl4 : (L.length : Int) = 4 := by omega
      have HL4 : Hid (L.length = 4) := h4
      clear h4
      go_enter Try.func29, Try.ntmps29
      go_wp2_with fail
      rw [← hw0]
      clear hw0
      refine (HC _).mono ?_
      rintro _ w1 ⟨rfl, h1⟩
      have HB1 : Hid (RowKit.Below w0.heap.size w0 w1) := h1
      clear h1 HC x0 x1 x2 x3
      go_wp2_with fail
      go_loopw [6, 7] (fun v x wr => ∃ (i : Nat) (bo : Option Addr) (cb : Nat) (b : List UInt8), i ≤ 4 ∧ x = .int .i64 (i : Int) ∧ v = .slice bo b.length cb ∧ Hid (∀ j, j < i → inR q (L.getD j 0) = true) ∧ Hid (b = rts (L.take i)) ∧ Hid (OwB w0.heap.size wr bo b cb) ∧ Hid (RowKit.Below w0.heap.size w0 wr)) (fun _ x _ => 4 - (intOf x).toNat)
      case atStart => exact ⟨0, none, 0, [], Nat.zero_le _, rfl, rfl, fun j hj => absurd hj (by omega), rfl, owb_nil _ _, HB1⟩
      case round =>
        obtain ⟨i, bo, cb, b, hi, rfl, rfl, hok, hb, hown, hbel⟩ := hrel
        by_cases hlt : i < 4
        · obtain ⟨g, off, rfl, _⟩ := (HV.out.below hbel.out).at_ (by have := HL4.out; omega)
          have HCC : Hid (∀ u, RowKit.Below w0.heap.size w0 u → u.cell? ⟨g, off + i, none⟩ = some (.int .i64 (L.getD i 0))) := fun u hu => by
            obtain ⟨g2, off2, e2, hc⟩ := (HV.out.below hu).at_ (by have := HL4.out; omega)
            cases e2
            exact hc i (by have := HL4.out; omega)
          have c0 := HCC.out wr hbel.out
          have HBB : Hid (b ++ rb (L.getD i 0) = rts (L.take (i + 1))) := by show _ = _; rw [HS.out i hlt, hb.out]
          have hbl := HZ.out i
          rw [← hb.out] at hbl
          have HNO := HN.out i hlt
          have HYES : Hid (inR q (L.getD i 0) = true → ∀ j, j < i + 1 → inR q (L.getD j 0) = true) := fun h j hj => by
            by_cases e : j = i
            · rw [e]; exact h
            · exact hok.out j (by omega)
          obtain ⟨R, hR⟩ : ∃ R, R = L.getD i 0 := ⟨_, rfl⟩
          rw [← hR] at c0 HBB HNO HYES HCC
          have i1 : (0 : Int) ≤ (i : Int) := by omega
          have i2 : (i : Int) < (L.length : Int) := by omega
          have i3 : (i : Int) < 4 := by omega
          obtain ⟨x0, x1, x2, x3⟩ := HPAR.out wr hbel.out
          clear hR
          by_cases hr0 : R < 0
          · have HF : Hid (okT q L = false) := HNO (by unfold inR; simp; omega)
            have d1 : decide (R < 0) = true := by simp; omega
            clear HNO
            go_wp2
            go_big_quiet (fail)
            go_wp2
            go_ret2
            exact ⟨220, none, 0, [], (erT_bad HF.out).symm, by rw [if_neg (by decide)], rfl, owb_nil _ _, below_then HB0.out (hbel.out.trans (below_drewN _ _ _))⟩
          · have d1 : decide (R < 0) = false := by simp; omega
            by_cases hrq : q ≤ R
            · have HF : Hid (okT q L = false) := HNO (by unfold inR; simp; omega)
              have d2 : decide (q ≤ R) = true := by simp; omega
              clear HNO
              go_wp2
              go_big_quiet (fail)
              go_wp2
              go_ret2
              exact ⟨220, none, 0, [], (erT_bad HF.out).symm, by rw [if_neg (by decide)], rfl, owb_nil _ _, below_then HB0.out (hbel.out.trans (below_drewN _ _ _))⟩
            · have d2 : decide (q ≤ R) = false := by simp; omega
              have HYY : Hid (∀ j, j < i + 1 → inR q (L.getD j 0) = true) := HYES.out (by unfold inR; simp; omega)
              have r2 : 0 ≤ R := by omega
              have r3 : R < 65536 := by have := HQ.out (by trivial); omega
              have R1 : Int.tdiv R 256 = R / 256 := Int.tdiv_eq_ediv_of_nonneg r2
              have R2 : Int.tmod R 256 = R % 256 := Int.tmod_eq_emod_of_nonneg r2
              have U1 : IntKind.i64.wrap (R / 256) = R / 256 := by rw [IntKind.wrap_i64]; omega
              have U2 : IntKind.u8.wrap (R / 256) = R / 256 := by rw [IntKind.wrap_u8]; omega
              have U3 : IntKind.u8.wrap (R % 256) = R % 256 := by rw [IntKind.wrap_u8]; omega
              clear HNO HYES
              go_wp2
              go_big_quiet (fail)
              obtain ⟨v4, hv4⟩ : ∃ v4, v4 = wr.drewN nq := ⟨_, rfl⟩
              rw [← hv4]
              have HB4 : Hid (RowKit.Below w0.heap.size w0 v4) := by show RowKit.Below _ _ _; rw [hv4]; exact hbel.out.trans (below_drewN _ _ _)
              have HO4 : Hid (OwB w0.heap.size v4 bo b cb) := by show OwB _ _ _ _ _; rw [hv4]; exact hown.out.below (below_drewN _ _ _)
              clear hv4 c0 x0 x1 x2 x3
              have c0 := HCC.out v4 HB4.out
              obtain ⟨v5a, hv5a⟩ : ∃ w1, w1 = v4.alloc (.cells #[.int .u8 (R / 256), .int .u8 (R % 256)] 5) := ⟨_, rfl⟩
              obtain ⟨v5, hv5⟩ : ∃ w1, w1 = (v4.alloc (.cells #[.int .u8 (R / 256), .int .u8 (R % 256)] 5)).drew := ⟨_, rfl⟩
              have hb5 : RowKit.Below v4.heap.size v4 v5 := by rw [hv5]; exact (below_alloc _ _).trans (below_drew _ _)
              have hlit5 : Reb v5 (some ⟨v4.heap.size, 0, none⟩) (rb R) 2 := by
                rw [hv5, ← hv5a]
                exact (reb_lit (rb R) hv5a (by rw [rb_vals r2 r3])).below (below_drew _ _)
              have hown5 := HO4.out.below hb5
              have HB5 : Hid (RowKit.Below w0.heap.size w0 v5) := below_then HB4.out hb5
              have hsz5 := HB5.out.size
              have hge4 := HO4.out.ge
              clear hb5 hv5a
              go_wp2_with fail
              go_region_held3 (fun w' => w'.cell? ⟨g, off + i, none⟩ = some (.int .i64 R)) (go_keep) ((rw [← hv5]; refine step_bytes (by rfl) (.tmp 32) (.tmp 45) (by rfl) w0.heap.size cb 2 bo (some ⟨v4.heap.size, 0, none⟩) b (rb R) (by rfl) (by rfl) hown5 hlit5 (by simp [rb]) (by simp [rb]; omega) hsz5 ?_; intro bo6 cb6 v6 L6 hL6 hown6 hg6; have HL6 : Hid (L6 = b ++ rb R) := hL6; have q0 := HCC.out v6 (HB5.out.grown hg6 hsz5 hge4); clear hL6))
              go_wp2
              go_roundw
              case rel => exact ⟨i + 1, bo6, cb6, L6, by omega, by go_num, rfl, HYY, by show _ = _; rw [← HBB.out, HL6.out], hown6, HB5.out.grown hg6 hsz5 hge4⟩
              case measure => simp [intOf]; omega
        · obtain rfl : i = 4 := by omega
          have HLE : Hid (b = rts L) := by show _ = _; rw [hb.out, HA.out]
          have HM : Hid (okT q L = true) := HY.out hok.out
          go_wp2
          go_ret2
          exact ⟨0, bo, cb, b, (erT_good HM.out).symm, by rw [if_pos rfl]; exact HLE.out, rfl, hown.out.mono HB0.out.size, below_then HB0.out hbel.out⟩
    · have hl4 : ((L.length : Int) != 4) = true := by simp; omega
      have HM : Hid (okT q L = false) := by show _ = _; unfold okT; simp [h4]
      clear h4
      go_enter Try.func29, Try.ntmps29
      go_wp2_with fail
      rw [← hw0]
      clear hw0
      refine (HC _).mono ?_
      rintro _ w1 ⟨rfl, h1⟩
      go_wp2
      go_ret2
      exact ⟨220, none, 0, [], (erT_bad HM.out).symm, by rw [if_neg (by decide)], rfl, owb_nil _ _, below_then HB0.out h1⟩
  · obtain rfl : e = 2 := by have := HER.out; omega
    rw [show decide ((2 : Int) = 0) = false from rfl] at HC
    go_enter Try.func29, Try.ntmps29
    go_wp2_with fail
    rw [← hw0]
    clear hw0
    refine (HC _).mono ?_
    rintro _ w1 ⟨rfl, h1⟩
    go_wp2
    go_ret2
    exact ⟨2, none, 0, [], (erT_no (by decide)).symm, by rw [if_neg (by decide)], rfl, owb_nil _ _, below_then HB0.out h1⟩
end Go.Proofs.Ytfbfiecamaginaa
