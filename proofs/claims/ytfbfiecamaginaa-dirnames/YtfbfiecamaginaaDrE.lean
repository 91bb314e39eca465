/- Check, by program and document; a row put behind bytes. -/
import Derived.Test.YtfbfiecamaginaaDrD
namespace Go.Proofs.Ytfbfiecamaginaa
open Go.RowKit Go.Sort

/-- Parameters: what the layout's functions answer of them. -/
structure PP (k r c q : Int) (M : Nat) (e : Int) : Prop where
  er : e = 0 ∨ e = 2
  rows : e = 0 → 8 ≤ q ∧ q ≤ 256
  top : M ≤ 32768
  most : ∀ w, Calls Try.prog 36 #[.agg #[.int .i64 k, .int .i64 r, .int .i64 c, .int .i64 q]] w fun e' w' => e' = .returned (.tuple #[.int .i64 (M : Int), .int .i64 e]) ∧ Below w.heap.size w w'
  chk : ∀ w, Calls Try.prog 39 #[.agg #[.int .i64 k, .int .i64 r, .int .i64 c, .int .i64 q]] w fun e' w' => e' = .returned (.int .i64 e) ∧ Below w.heap.size w w'
  rmay : ∀ w, Calls Try.prog 49 #[.agg #[.int .i64 k, .int .i64 r, .int .i64 c, .int .i64 q]] w fun e' w' => e' = .returned (.bool (decide (e = 0))) ∧ Below w.heap.size w w'
  rm : e = 0 → ∀ w, Calls Try.prog 47 #[.agg #[.int .i64 k, .int .i64 r, .int .i64 c, .int .i64 q]] w fun e' w' => e' = .returned (.int .i64 (M : Int)) ∧ Below w.heap.size w w'
theorem pp_any (k r c q : Int) : ∃ M e, PP k r c q M e := by
  obtain ⟨N, W, e, h⟩ := par_any k r c q
  refine ⟨mst W, e, ?_, ?_, mst_le W, fun w => Most_any h w, fun w => ?_, fun w => ?_, ?_⟩
  · rcases h with ⟨_, _, _, h⟩ | ⟨_, _, _, h⟩ <;> omega
  · intro h0
    rcases h with ⟨h1, _, _, _⟩ | ⟨_, _, _, h⟩
    · obtain ⟨h1, h2, h3, h4, h5, h6, h7, h8, h9⟩ := may_true h1
      exact ⟨h8, h9⟩
    · omega
  · have := Check_any k r c q w
    rcases h with ⟨h1, _, _, h⟩ | ⟨h1, _, _, h⟩
    · rw [h, show (0 : Int) = erP k r c q by unfold erP; rw [if_pos h1]]; exact this
    · rw [h, show (2 : Int) = erP k r c q by unfold erP; rw [if_neg (by rw [h1]; decide)]]; exact this
  · have := May_any k r c q w
    rcases h with ⟨h1, _, _, h⟩ | ⟨h1, _, _, h⟩
    · rw [show decide (e = 0) = may k r c q by rw [h1]; simp [h]]; exact this
    · rw [show decide (e = 0) = may k r c q by rw [h1]; simp [h]]; exact this
  · intro h0 w
    have hw := h.wide
    rcases h with ⟨h1, h2, _, h⟩ | ⟨_, _, _, h⟩
    · obtain ⟨g1, g2, g3, g4, g5, g6, g7, g8, g9⟩ := may_true h1
      exact M_good k r c q w W (by rw [h2]; exact wrap_wide g1 g2 g5 g6) (by omega) hw
    · omega
/-- Entries that are not too many. -/
def Few (l : List En) : Prop := l.length ≤ 1000000 ∧ szE l ≤ 1000000000 ∧ ∀ x ∈ l, x.1.length ≤ 100000
set_option maxHeartbeats 1000000 in
set_option maxRecDepth 100000 in
theorem Check_e {k r c q : Int} {M : Nat} {e : Int} (hp : PP k r c q M e) (w : World) (ao : Option Addr) (l : List En) (ca : Nat) (hv : Ren w ao l ca) (hf : Few l) :
    Calls Try.prog 24 #[.agg #[.int .i64 k, .int .i64 r, .int .i64 c, .int .i64 q], .slice ao l.length ca] w fun e' w' => e' = .returned (.int .i64 (erC e M q l)) ∧ Below w.heap.size w w' := by
  obtain ⟨w0, hw0⟩ : ∃ w0, w0 = w.alloc (.cells #[.int .i64 k, .int .i64 r, .int .i64 c, .int .i64 q] 24) := ⟨_, rfl⟩
  have b0 : Below w.heap.size w w0 := by rw [hw0]; exact below_alloc _ _
  have HPAR : Hid (∀ v, Below w0.heap.size w0 v → v.cell? ⟨w.heap.size, 0, none⟩ = some (.int .i64 k) ∧ v.cell? ⟨w.heap.size, 1, none⟩ = some (.int .i64 r) ∧ v.cell? ⟨w.heap.size, 2, none⟩ = some (.int .i64 c) ∧ v.cell? ⟨w.heap.size, 3, none⟩ = some (.int .i64 q)) := fun v hv => par_held hw0 hv
  have HV : Hid (Ren w0 ao l ca) := hv.below b0
  have HB0 : Hid (Below w.heap.size w w0) := b0
  have HM : Hid (∀ v, Below w0.heap.size w0 v → Calls Try.prog 33 #[.agg #[.int .i64 k, .int .i64 r, .int .i64 c, .int .i64 q], .slice ao l.length ca] v fun e w' => e = .returned (.bool (mayE q l)) ∧ Below v.heap.size v w') := fun v hb => may_any k r c q v ao l ca (HV.out.below hb) hf.1
  have HL : Hid (∀ v, Below w0.heap.size w0 v → Calls Try.prog 48 #[.slice ao l.length ca] v fun e w' => e = .returned (.int .i64 ((szE l : Nat) : Int)) ∧ Below v.heap.size v w') := fun v hb => length_any v ao l ca (HV.out.below hb) hf.2.1
  have HMO := hp.most
  obtain ⟨x0, x1, x2, x3⟩ := HPAR.out w0 (Below.refl _ _)
  have her := hp.er
  have htop := hp.top
  clear hv hf b0 hp
  rcases her with he | he
  · subst he
    go_enter Try.func24, Try.ntmps24
    go_wp2_with fail
    rw [← hw0]
    clear hw0
    refine (HMO _).mono ?_
    rintro _ w1 ⟨rfl, h1⟩
    have HB1 : Hid (Below w0.heap.size w0 w1) := h1
    have HM1 := HM.out w1 h1
    clear x0 x1 x2 x3 h1
    obtain ⟨x0, x1, x2, x3⟩ := HPAR.out w1 HB1.out
    cases hm : mayE q l
    · rw [hm] at HM1
      go_wp2_with fail
      refine HM1.mono ?_
      rintro _ w2 ⟨rfl, h2⟩
      go_wp2
      go_ret
      exact ⟨ret_int (by unfold erC; rw [if_pos rfl, hm]; rfl), below_then HB0.out (below_then HB1.out h2)⟩
    · rw [hm] at HM1
      go_wp2_with fail
      refine HM1.mono ?_
      rintro _ w2 ⟨rfl, h2⟩
      have HB2 : Hid (Below w0.heap.size w0 w2) := below_then HB1.out h2
      have HL2 := HL.out w2 HB2.out
      by_cases hz : M < szE l
      · have hz1 : (M : Int) < (szE l : Int) := by omega
        go_wp2_with fail
        refine HL2.mono ?_
        rintro _ w3 ⟨rfl, h3⟩
        go_wp2
        go_ret
        exact ⟨ret_int (by unfold erC; rw [if_pos rfl, hm, if_pos rfl, if_pos hz]), below_then HB0.out (below_then HB2.out h3)⟩
      · have hz1 : ¬ (M : Int) < (szE l : Int) := by omega
        go_wp2_with fail
        refine HL2.mono ?_
        rintro _ w3 ⟨rfl, h3⟩
        go_wp2
        go_ret
        exact ⟨ret_int (by unfold erC; rw [if_pos rfl, hm, if_pos rfl, if_neg hz]), below_then HB0.out (below_then HB2.out h3)⟩
  · subst he
    go_enter Try.func24, Try.ntmps24
    go_wp2_with fail
    rw [← hw0]
    clear hw0
    refine (HMO _).mono ?_
    rintro _ w1 ⟨rfl, h1⟩
    go_wp2
    go_ret
    exact ⟨ret_int (by unfold erC; rw [if_neg (by decide)]), below_then HB0.out h1⟩
set_option maxHeartbeats 1000000 in
set_option maxRecDepth 100000 in
theorem RCheck_e {k r c q : Int} {M : Nat} {e : Int} (hp : PP k r c q M e) (w : World) (ao : Option Addr) (l : List En) (ca : Nat) (hv : Ren w ao l ca) (hf : Few l) :
    Calls Try.prog 25 #[.agg #[.int .i64 k, .int .i64 r, .int .i64 c, .int .i64 q], .slice ao l.length ca] w fun e' w' => e' = .returned (.int .i64 (erC e M q l)) ∧ Below w.heap.size w w' := by
  obtain ⟨w0, hw0⟩ : ∃ w0, w0 = w.alloc (.cells #[.int .i64 k, .int .i64 r, .int .i64 c, .int .i64 q] 24) := ⟨_, rfl⟩
  have b0 : Below w.heap.size w w0 := by rw [hw0]; exact below_alloc _ _
  have HPAR : Hid (∀ v, Below w0.heap.size w0 v → v.cell? ⟨w.heap.size, 0, none⟩ = some (.int .i64 k) ∧ v.cell? ⟨w.heap.size, 1, none⟩ = some (.int .i64 r) ∧ v.cell? ⟨w.heap.size, 2, none⟩ = some (.int .i64 c) ∧ v.cell? ⟨w.heap.size, 3, none⟩ = some (.int .i64 q)) := fun v hv => par_held hw0 hv
  have HV : Hid (Ren w0 ao l ca) := hv.below b0
  have HB0 : Hid (Below w.heap.size w w0) := b0
  have HM : Hid (∀ v, Below w0.heap.size w0 v → Calls Try.prog 50 #[.agg #[.int .i64 k, .int .i64 r, .int .i64 c, .int .i64 q], .slice ao l.length ca] v fun e w' => e = .returned (.bool (mayE q l)) ∧ Below v.heap.size v w') := fun v hb => RMay_any k r c q v ao l ca (HV.out.below hb) hf.1 hf.2.2
  have HL : Hid (∀ v, Below w0.heap.size w0 v → Calls Try.prog 46 #[.slice ao l.length ca] v fun e w' => e = .returned (.int .i64 ((szE l : Nat) : Int)) ∧ Below v.heap.size v w') := fun v hb => size_any v ao l ca (HV.out.below hb) hf.2.1
  have HMO := hp.rmay
  have HR := hp.rm
  obtain ⟨x0, x1, x2, x3⟩ := HPAR.out w0 (Below.refl _ _)
  have her := hp.er
  have htop := hp.top
  clear hv hf b0 hp
  rcases her with he | he
  · subst he
    have HRR := HR rfl
    simp only [decide_true] at HMO
    clear HR
    go_enter Try.func25, Try.ntmps25
    go_wp2_with fail
    rw [← hw0]
    clear hw0
    refine (HMO _).mono ?_
    rintro _ w1 ⟨rfl, h1⟩
    have HB1 : Hid (Below w0.heap.size w0 w1) := h1
    have HM1 := HM.out w1 h1
    clear x0 x1 x2 x3 h1
    obtain ⟨x0, x1, x2, x3⟩ := HPAR.out w1 HB1.out
    cases hm : mayE q l
    · rw [hm] at HM1
      go_wp2_with fail
      refine HM1.mono ?_
      rintro _ w2 ⟨rfl, h2⟩
      go_wp2
      go_ret
      exact ⟨ret_int (by unfold erC; rw [if_pos rfl, hm]; rfl), below_then HB0.out (below_then HB1.out h2)⟩
    · rw [hm] at HM1
      go_wp2_with fail
      refine HM1.mono ?_
      rintro _ w2 ⟨rfl, h2⟩
      have HB2 : Hid (Below w0.heap.size w0 w2) := below_then HB1.out h2
      have cS := fun d os => Calls.regrown_of (d := d) (os := os) (HL.out (grow (redrawn w2 d) os) (below_then HB2.out (below_regrown w2 d os)))
      have cM := fun d os => Calls.regrown_of (d := d) (os := os) (HRR (grow (redrawn w2 d) os))
      clear x0 x1 x2 x3 h2
      obtain ⟨x0, x1, x2, x3⟩ := HPAR.out w2 HB2.out
      have k0 := cell_regrown x0
      have k1 := cell_regrown x1
      have k2 := cell_regrown x2
      have k3 := cell_regrown x3
      clear x0 x1 x2 x3 HRR HMO
      have HEC : Hid (erC 0 M q l = if M < szE l then 3 else 0) := by show _ = _; unfold erC; rw [if_pos rfl, hm, if_pos rfl]
      obtain ⟨Z, hZ⟩ : ∃ Z, Z = szE l := ⟨_, rfl⟩
      rw [← hZ] at cS HEC
      clear hZ
      by_cases hz : M < Z
      · have hz1 : (M : Int) < (Z : Int) := by omega
        go_wp2_with fail
        refine wp_region_quiet_below (by kernel_rfl) (by kernel_rfl) ?_
        repeat (go_big_quiet_step (first | exact cS _ _ | exact cM _ _))
        refine wpQuiet_nil ?_
        intro _ hw'
        obtain ⟨⟨dq, osq⟩, hw''⟩ := hw'
        subst hw''
        go_wp2
        go_ret
        exact ⟨ret_int (by rw [HEC.out, if_pos hz]), below_then HB0.out (below_then HB2.out (below_regrown w2 dq osq))⟩
      · have hz1 : ¬ (M : Int) < (Z : Int) := by omega
        go_wp2_with fail
        refine wp_region_quiet_below (by kernel_rfl) (by kernel_rfl) ?_
        repeat (go_big_quiet_step (first | exact cS _ _ | exact cM _ _))
        refine wpQuiet_nil ?_
        intro _ hw'
        obtain ⟨⟨dq, osq⟩, hw''⟩ := hw'
        subst hw''
        go_wp2
        go_ret
        exact ⟨ret_int (by rw [HEC.out, if_neg hz]), below_then HB0.out (below_then HB2.out (below_regrown w2 dq osq))⟩
  · subst he
    rw [show decide ((2 : Int) = 0) = false from rfl] at HMO
    go_enter Try.func25, Try.ntmps25
    go_wp2_with fail
    rw [← hw0]
    clear hw0
    refine (HMO _).mono ?_
    rintro _ w1 ⟨rfl, h1⟩
    go_wp2
    go_ret
    exact ⟨ret_int (by unfold erC; rw [if_neg (by decide)]), below_then HB0.out h1⟩
end Go.Proofs.Ytfbfiecamaginaa
