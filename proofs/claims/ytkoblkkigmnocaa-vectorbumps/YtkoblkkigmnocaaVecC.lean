/- Vectors that may be, by the document; the first error of two; whether two lists are the same. -/
import Derived.Test.YtkoblkkigmnocaaVecB
import Derived.BigQuiet
namespace Go.Proofs.Ytkoblkkigmnocaa
open Go.RowKit

set_option maxHeartbeats 400000 in
theorem N_any {k r : Int} (c q : Int) {N : Nat} (h : (N : Int) = k + r) (hk : N ≤ 16) (w : World) :
    Calls Try.prog 43 #[.agg #[.int .i64 k, .int .i64 r, .int .i64 c, .int .i64 q]] w fun e w' => e = .returned (.int .i64 (N : Int)) ∧ Below w.heap.size w w' := by
  have HN : Hid (k + r = (N : Int)) := h.symm
  go_enter Try.func43, Try.ntmps43
  go_wp2
  go_ret
  exact ⟨ret_int HN.out, below_alloc _ _⟩
set_option maxHeartbeats 1000000 in
set_option maxRecDepth 100000 in
theorem RMay_any {k r : Int} (c q : Int) {N : Nat} (h : (N : Int) = k + r) (hk : N ≤ 16) (w : World) (ao : Option Addr) (n ca : Nat) (R : Nat → Int) (hr : RdI w ao n R) (hn : n ≤ 1000) :
    Calls Try.prog 44 #[.agg #[.int .i64 k, .int .i64 r, .int .i64 c, .int .i64 q], .slice ao n ca] w fun e w' => e = .returned (.bool (vok N n R)) ∧ Below w.heap.size w w' := by
  have HD := fun w => N_any c q h hk w
  have HR : Hid (RdI w ao n R) := hr
  clear h hr
  obtain ⟨w0, hw0⟩ : ∃ w0, w0 = w.alloc (.cells #[.int .i64 k, .int .i64 r, .int .i64 c, .int .i64 q] 24) := ⟨_, rfl⟩
  have b0 : Below w.heap.size w w0 := by rw [hw0]; exact below_alloc _ _
  by_cases hnN : n = N
  · by_cases hall : ∀ i, i < n → 1 ≤ R i ∧ R i ≤ 1073741824
    · rw [show vok N n R = true from decide_eq_true ⟨hnN, hall⟩]
      have HA : Hid (∀ i, i < n → 1 ≤ R i ∧ R i ≤ 1073741824) := hall
      clear hall
      subst hnN
      go_enter Try.func44, Try.ntmps44
      go_wp2_with fail
      rw [← hw0]
      refine (HD _).mono ?_
      rintro e wa ⟨rfl, ha⟩
      have HB : Hid (Below w.heap.size w wa) := below_then b0 ha
      have HS : Hid (RdI wa ao n R) := HR.out.below HB.out
      clear hw0 ha b0 HD
      go_wp2_with fail
      go_loop [5] (fun x => ∃ i : Nat, i ≤ n ∧ x = .int .i64 i) (fun x => n - (intOf x).toNat)
      case atStart => exact ⟨0, Nat.zero_le _, rfl⟩
      case round =>
        obtain ⟨i, hi, rfl⟩ := hrel
        by_cases hlt : i < n
        · obtain ⟨b, off, rfl, hc⟩ := HS.out (by omega)
          have ck := hc i hlt
          have HV := fun w => Version_any (R i) w
          rw [show verB (R i) = true from decide_eq_true (HA.out i hlt)] at HV
          clear hc
          have i1 : (0 : Int) ≤ (i : Int) := by omega
          have i2 : (i : Int) < (n : Int) := by omega
          go_wp2_with fail
          refine (HV _).mono ?_
          rintro e w' ⟨rfl, rfl⟩
          go_wp2_with fail
          go_round
          case rel => exact ⟨i + 1, by omega, by go_num⟩
          case measure => simp [intOf]; omega
        · go_wp2
          go_ret
          exact ⟨rfl, HB.out⟩
    · rw [show vok N n R = false from decide_eq_false fun h => hall h.2]
      obtain ⟨p, hp, hne, heq⟩ := first_not hall
      have HE : Hid (∀ i, i < p → verB (R i) = true) := fun i hi => decide_eq_true (heq i hi)
      have HN : Hid (verB (R p) = false) := decide_eq_false hne
      clear hall hne heq
      subst hnN
      go_enter Try.func44, Try.ntmps44
      go_wp2_with fail
      rw [← hw0]
      refine (HD _).mono ?_
      rintro e wa ⟨rfl, ha⟩
      have HB : Hid (Below w.heap.size w wa) := below_then b0 ha
      have HS : Hid (RdI wa ao n R) := HR.out.below HB.out
      clear hw0 ha b0 HD
      go_wp2_with fail
      go_loop [5] (fun x => ∃ i : Nat, i ≤ p ∧ x = .int .i64 i) (fun x => n - (intOf x).toNat)
      case atStart => exact ⟨0, Nat.zero_le _, rfl⟩
      case round =>
        obtain ⟨i, hi, rfl⟩ := hrel
        have hlt : i < n := by omega
        obtain ⟨b, off, rfl, hc⟩ := HS.out (by omega)
        have ck := hc i hlt
        have HV := fun w => Version_any (R i) w
        clear hc
        have i1 : (0 : Int) ≤ (i : Int) := by omega
        have i2 : (i : Int) < (n : Int) := by omega
        by_cases hiq : i < p
        · rw [HE.out i hiq] at HV
          go_wp2_with fail
          refine (HV _).mono ?_
          rintro e w' ⟨rfl, rfl⟩
          go_wp2_with fail
          go_round
          case rel => exact ⟨i + 1, by omega, by go_num⟩
          case measure => simp [intOf]; omega
        · obtain rfl : i = p := by omega
          rw [HN.out] at HV
          go_wp2_with fail
          refine (HV _).mono ?_
          rintro e w' ⟨rfl, rfl⟩
          go_wp2_with fail
          go_ret
          exact ⟨rfl, HB.out⟩
  · rw [show vok N n R = false from decide_eq_false fun h => hnN h.1]
    go_enter Try.func44, Try.ntmps44
    go_wp2_with fail
    rw [← hw0]
    refine (HD _).mono ?_
    rintro e wa ⟨rfl, ha⟩
    have HB : Hid (Below w.heap.size w wa) := below_then b0 ha
    clear hw0 ha b0 HD
    go_wp2_with fail
    go_ret
    exact ⟨rfl, HB.out⟩
theorem Par.few {k r c q : Int} {N W : Nat} {e : Int} (h : Par k r c q N W e) : N ≤ 16 := by
  rcases h with ⟨h, _, h2, _⟩ | ⟨_, _, h2, _⟩
  · obtain ⟨p1, p2, p3, p4, p5, p6, p7, p8, p9⟩ := may_true h
    omega
  · omega
theorem Par.some {k r c q : Int} {N W : Nat} {e : Int} (h : Par k r c q N W e) (he : e = 0) : 1 ≤ N := by
  rcases h with ⟨h, _, h2, _⟩ | ⟨_, _, _, h2⟩
  · obtain ⟨p1, p2, p3, p4, p5, p6, p7, p8, p9⟩ := may_true h
    omega
  · omega
theorem Par.err {k r c q : Int} {N W : Nat} {e : Int} (h : Par k r c q N W e) : e = 0 ∨ e = 2 := by
  rcases h with ⟨_, _, _, h⟩ | ⟨_, _, _, h⟩
  · exact .inl h
  · exact .inr h
set_option maxHeartbeats 1000000 in
set_option maxRecDepth 100000 in
theorem RVCheck_any {k r c q : Int} {N W : Nat} {x : Int} (h : Par k r c q N W x) (w : World) (ao : Option Addr) (n ca : Nat) (R : Nat → Int) (hv : Vec w ao n ca R) (hn : n ≤ 1000) :
    Calls Try.prog 22 #[.agg #[.int .i64 k, .int .i64 r, .int .i64 c, .int .i64 q], .slice ao n ca] w fun e w' => e = .returned (.int .i64 (erV x N n R)) ∧ Below w.heap.size w w' := by
  have hx := h.few
  have HV : Hid (RdI w ao n R) := hv.rd
  have HM := fun w => May_any k r c q w
  clear hv
  obtain ⟨w0, hw0⟩ : ∃ w0, w0 = w.alloc (.cells #[.int .i64 k, .int .i64 r, .int .i64 c, .int .i64 q] 24) := ⟨_, rfl⟩
  have b0 : Below w.heap.size w w0 := by rw [hw0]; exact below_alloc _ _
  rcases h with ⟨h0, _, h2, rfl⟩ | ⟨h0, _, _, rfl⟩
  · have HE : Hid (erV 0 N n R = if vok N n R = true then 0 else 70) := by show _ = _; unfold erV; rw [if_pos rfl]
    have HC := fun w (hr : RdI w ao n R) => RMay_any c q h2 hx w ao n ca R hr hn
    rw [h0] at HM
    clear h0 h2
    cases hok : vok N n R
    all_goals (
      rw [hok] at HC HE
      clear hok
      go_enter Try.func22, Try.ntmps22
      go_wp2_with fail
      rw [← hw0]
      refine (HM _).mono ?_
      rintro e wa ⟨rfl, ha⟩
      have hb := below_then b0 ha
      have HR := HV.out.below hb
      obtain ⟨s0, s1, s2, s3⟩ := par_held hw0 ha
      clear hw0
      go_wp2_with fail
      refine (HC _ HR).mono ?_
      rintro e wb ⟨rfl, hb2⟩
      go_wp2_with fail
      go_ret
      exact ⟨ret_int (by rw [HE.out]; rfl), below_then hb hb2⟩)
  · have HE : Hid (erV 2 N n R = 2) := erV_x (by decide)
    rw [h0] at HM
    go_enter Try.func22, Try.ntmps22
    go_wp2_with fail
    rw [← hw0]
    refine (HM _).mono ?_
    rintro e wa ⟨rfl, ha⟩
    have hb := below_then b0 ha
    clear hw0
    go_wp2_with fail
    go_ret
    exact ⟨ret_int (by rw [HE.out]), hb⟩
set_option maxHeartbeats 1000000 in
set_option maxRecDepth 100000 in
theorem both_any {k r c q : Int} {N W : Nat} {x : Int} (h : Par k r c q N W x) (w : World) (ao bo : Option Addr) (n ca m cb : Nat) (R S : Nat → Int) (hv : Vec w ao n ca R) (hv' : Vec w bo m cb S) (hn : n ≤ 1000) (hm : m ≤ 1000) :
    Calls Try.prog 34 #[.agg #[.int .i64 k, .int .i64 r, .int .i64 c, .int .i64 q], .slice ao n ca, .slice bo m cb] w fun e w' => e = .returned (.int .i64 (er2 x N n R m S)) ∧ Below w.heap.size w w' := by
  have HC := fun w (hv : Vec w ao n ca R) => VCheck_any h w ao n ca R hv hn
  have HC' := fun w (hv : Vec w bo m cb S) => VCheck_any h w bo m cb S hv hm
  have HE : Hid (er2 x N n R m S = if erV x N n R = 0 then erV x N m S else erV x N n R) := rfl
  have HV : Hid (Vec w ao n ca R) := hv
  have HV' : Hid (Vec w bo m cb S) := hv'
  clear hv hv' h
  generalize erV x N n R = e1 at *
  generalize erV x N m S = e2 at *
  obtain ⟨w0, hw0⟩ : ∃ w0, w0 = w.alloc (.cells #[.int .i64 k, .int .i64 r, .int .i64 c, .int .i64 q] 24) := ⟨_, rfl⟩
  have b0 : Below w.heap.size w w0 := by rw [hw0]; exact below_alloc _ _
  by_cases h1 : e1 = 0
  · have HE2 : Hid (er2 x N n R m S = e2) := by show _ = _; rw [HE.out, if_pos h1]
    subst h1
    go_enter Try.func34, Try.ntmps34
    go_wp2_with fail
    rw [← hw0]
    refine (HC _ (HV.out.below b0)).mono ?_
    rintro e wa ⟨rfl, ha⟩
    obtain ⟨s0, s1, s2, s3⟩ := par_held hw0 ha
    have hb := below_then b0 ha
    clear hw0
    go_wp2_with fail
    refine (HC' _ (HV'.out.below hb)).mono ?_
    rintro e wb ⟨rfl, hb2⟩
    go_wp2_with fail
    go_ret
    exact ⟨ret_int HE2.out.symm, below_then hb hb2⟩
  · have HE2 : Hid (er2 x N n R m S = e1) := by show _ = _; rw [HE.out, if_neg h1]
    have hne : (e1 != 0) = true := by simpa using h1
    go_enter Try.func34, Try.ntmps34
    go_wp2_with fail
    rw [← hw0]
    refine (HC _ (HV.out.below b0)).mono ?_
    rintro e wa ⟨rfl, ha⟩
    have hb := below_then b0 ha
    clear hw0
    go_wp2_with fail
    go_ret
    exact ⟨ret_int HE2.out.symm, hb⟩
set_option maxHeartbeats 1000000 in
set_option maxRecDepth 100000 in
theorem two_any {k r c q : Int} {N W : Nat} {x : Int} (h : Par k r c q N W x) (w : World) (ao bo : Option Addr) (n ca m cb : Nat) (R S : Nat → Int) (hv : Vec w ao n ca R) (hv' : Vec w bo m cb S) (hn : n ≤ 1000) (hm : m ≤ 1000) :
    Calls Try.prog 45 #[.agg #[.int .i64 k, .int .i64 r, .int .i64 c, .int .i64 q], .slice ao n ca, .slice bo m cb] w fun e w' => e = .returned (.int .i64 (er2 x N n R m S)) ∧ Below w.heap.size w w' := by
  have HC := fun w (hv : Vec w ao n ca R) => RVCheck_any h w ao n ca R hv hn
  have HC' := fun w (hv : Vec w bo m cb S) => RVCheck_any h w bo m cb S hv hm
  have HE : Hid (er2 x N n R m S = if erV x N n R = 0 then erV x N m S else erV x N n R) := rfl
  have HV : Hid (Vec w ao n ca R) := hv
  have HV' : Hid (Vec w bo m cb S) := hv'
  clear hv hv' h
  generalize erV x N n R = e1 at *
  generalize erV x N m S = e2 at *
  obtain ⟨w0, hw0⟩ : ∃ w0, w0 = w.alloc (.cells #[.int .i64 k, .int .i64 r, .int .i64 c, .int .i64 q] 24) := ⟨_, rfl⟩
  have b0 : Below w.heap.size w w0 := by rw [hw0]; exact below_alloc _ _
  by_cases h1 : e1 = 0
  · have HE2 : Hid (er2 x N n R m S = e2) := by show _ = _; rw [HE.out, if_pos h1]
    subst h1
    go_enter Try.func45, Try.ntmps45
    go_wp2_with fail
    rw [← hw0]
    refine (HC _ (HV.out.below b0)).mono ?_
    rintro e wa ⟨rfl, ha⟩
    obtain ⟨s0, s1, s2, s3⟩ := par_held hw0 ha
    have hb := below_then b0 ha
    clear hw0
    go_wp2_with fail
    refine (HC' _ (HV'.out.below hb)).mono ?_
    rintro e wb ⟨rfl, hb2⟩
    go_wp2_with fail
    go_ret
    exact ⟨ret_int HE2.out.symm, below_then hb hb2⟩
  · have HE2 : Hid (er2 x N n R m S = e1) := by show _ = _; rw [HE.out, if_neg h1]
    have hne : (e1 != 0) = true := by simpa using h1
    go_enter Try.func45, Try.ntmps45
    go_wp2_with fail
    rw [← hw0]
    refine (HC _ (HV.out.below b0)).mono ?_
    rintro e wa ⟨rfl, ha⟩
    have hb := below_then b0 ha
    clear hw0
    go_wp2_with fail
    go_ret
    exact ⟨ret_int HE2.out.symm, hb⟩
set_option maxHeartbeats 1000000 in
set_option maxRecDepth 100000 in
theorem Same_any (w : World) (ao bo : Option Addr) (n ca m cb : Nat) (A B : Nat → Int) (ha : RdI w ao n A) (hb : RdI w bo m B) (hn : n ≤ 1000) (hm : m ≤ 1000) :
    Calls Try.prog 20 #[.slice ao n ca, .slice bo m cb] w fun e w' => e = .returned (.bool (sameB n m A B)) ∧ ∃ q, w' = w.drewN q := by
  have HA : Hid (RdI w ao n A) := ha
  have HB : Hid (RdI w bo m B) := hb
  clear ha hb
  by_cases hnm : n = m
  · subst hnm
    by_cases hall : ∀ i, i < n → A i = B i
    · rw [show sameB n n A B = true from decide_eq_true ⟨rfl, hall⟩]
      have HS : Hid (∀ i, i < n → A i = B i) := hall
      clear hall
      go_enter Try.func20, Try.ntmps20
      go_wp2
      go_loopw [5] (fun x wr => ∃ i : Nat, i ≤ n ∧ x = .int .i64 i ∧ Hid (∃ q, wr = w.drewN q)) (fun x _ => n - (intOf x).toNat)
      case atStart => exact ⟨0, Nat.zero_le _, rfl, 0, rfl⟩
      case round =>
        obtain ⟨i, hi, rfl, hdr⟩ := hrel
        by_cases hlt : i < n
        · have hbel : Below w.heap.size w wr := by obtain ⟨q, rfl⟩ := hdr.out; exact below_drewN _ _ _
          obtain ⟨b, off, rfl, hc⟩ := (HA.out.below hbel) (by omega)
          obtain ⟨b', off', rfl, hc'⟩ := (HB.out.below hbel) (by omega)
          have ck := hc i hlt
          have ck' := hc' i hlt
          rw [← HS.out i hlt] at ck'
          clear hc hc' hbel
          have hb : (A i != A i) = false := by simp
          have i1 : (0 : Int) ≤ (i : Int) := by omega
          have i2 : (i : Int) < (n : Int) := by omega
          go_wp2
          go_quiet (fail)
          go_wp2
          go_roundw
          case rel =>
            obtain ⟨q, hq⟩ := hdr.out
            exact ⟨i + 1, by omega, by go_num, q + nq, by rw [hq]; simp [World.drewN, Nat.add_assoc]⟩
          case measure => simp [intOf]; omega
        · go_wp2
          go_ret
          exact ⟨rfl, hdr.out⟩
    · rw [show sameB n n A B = false from decide_eq_false fun h => hall h.2]
      obtain ⟨p, hp, hne, heq⟩ := first_not hall
      have HE : Hid (∀ i, i < p → A i = B i) := heq
      have HN : Hid (¬ A p = B p) := hne
      clear hall hne heq
      go_enter Try.func20, Try.ntmps20
      go_wp2
      go_loopw [5] (fun x wr => ∃ i : Nat, i ≤ p ∧ x = .int .i64 i ∧ Hid (∃ q, wr = w.drewN q)) (fun x _ => n - (intOf x).toNat)
      case atStart => exact ⟨0, Nat.zero_le _, rfl, 0, rfl⟩
      case round =>
        obtain ⟨i, hi, rfl, hdr⟩ := hrel
        have hlt : i < n := by omega
        have hbel : Below w.heap.size w wr := by obtain ⟨q, rfl⟩ := hdr.out; exact below_drewN _ _ _
        obtain ⟨b, off, rfl, hc⟩ := (HA.out.below hbel) (by omega)
        obtain ⟨b', off', rfl, hc'⟩ := (HB.out.below hbel) (by omega)
        have ck := hc i hlt
        have ck' := hc' i hlt
        clear hc hc' hbel
        have i1 : (0 : Int) ≤ (i : Int) := by omega
        have i2 : (i : Int) < (n : Int) := by omega
        by_cases hiq : i < p
        · rw [← HE.out i hiq] at ck'
          have hb : (A i != A i) = false := by simp
          go_wp2
          go_quiet (fail)
          go_wp2
          go_roundw
          case rel =>
            obtain ⟨q, hq⟩ := hdr.out
            exact ⟨i + 1, by omega, by go_num, q + nq, by rw [hq]; simp [World.drewN, Nat.add_assoc]⟩
          case measure => simp [intOf]; omega
        · obtain rfl : i = p := by omega
          have hb : (A i != B i) = true := by have := HN.out; simpa using this
          have HQ : Hid (∃ q, wr = w.drewN q) := hdr
          go_wp2
          go_quiet (fail)
          go_wp2
          go_ret
          obtain ⟨q, hq⟩ := HQ.out
          exact ⟨rfl, q + nq, by rw [hq]; simp [World.drewN, Nat.add_assoc]⟩
  · rw [show sameB n m A B = false from decide_eq_false fun h => hnm h.1]
    have hb : ((n : Int) != (m : Int)) = true := by simp; omega
    go_enter Try.func20, Try.ntmps20
    go_wp2
    go_ret
    exact ⟨rfl, 0, rfl⟩
end Go.Proofs.Ytkoblkkigmnocaa
