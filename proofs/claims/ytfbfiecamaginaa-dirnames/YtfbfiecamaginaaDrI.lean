/- Where a name stands, by the document; asked for, with the errors; Find, by both. -/
import Derived.Test.YtfbfiecamaginaaDrH
namespace Go.Proofs.Ytfbfiecamaginaa
open Go.RowKit Go.Sort

set_option maxHeartbeats 2000000 in
set_option maxRecDepth 100000 in
theorem at_any (w : World) (ao : Option Addr) (l : List En) (ca : Nat) (hv : Ren w ao l ca) (hf : Few l) (s : Nm) :
    Calls Try.prog 44 #[.slice ao l.length ca, .string ⟨s.toArray⟩] w fun e w' => e = .returned (.tuple #[.int .i64 (posE l s : Int), .bool (isE l s)]) ∧ RowKit.Below w.heap.size w w' := by
  have HV : Hid (Ren w ao l ca) := hv
  have HL : Hid (∀ i, i < l.length → ∀ w, Calls Try.prog 58 #[.string ⟨(gN l i).toArray⟩, .string ⟨s.toArray⟩] w fun e w' => e = .returned (.bool (decide (gN l i < s))) ∧ RowKit.Below w.heap.size w w') := fun i hi w =>
    (RLess_any (gN l i) s w (by rw [gN_eq hi]; exact hf.2.2 _ (List.getElem_mem hi))).mono fun _ _ ⟨h1, q, h2⟩ => ⟨h1, by rw [h2]; exact below_drewN _ _ _⟩
  have hn2 : (l.length : Int) ≤ 1000000 := by have := hf.1; omega
  clear hv hf
  have HEND : Hid (∀ p, p ≤ l.length → (∀ j, j < p → gN l j < s) → (p < l.length → ¬ gN l p < s) → posE l s = p) := fun p h1 h2 h3 => pos_of h1 h2 h3
  have HI : Hid (isE l s = (decide (posE l s < l.length) && (gN l (posE l s) == s))) := rfl
  obtain ⟨P, hP⟩ : ∃ P, P = posE l s := ⟨_, rfl⟩
  obtain ⟨I, hI⟩ : ∃ I, I = isE l s := ⟨_, rfl⟩
  rw [← hP, ← hI] at HI
  rw [← hP] at HEND
  rw [← hP, ← hI]
  clear hP hI
  go_enter Try.func44, Try.ntmps44
  go_wp2_with fail
  go_loopw [6] (fun x wr => ∃ p : Nat, p ≤ l.length ∧ x = .int .i64 (p : Int) ∧ Hid (∀ j, j < p → gN l j < s) ∧ Hid (RowKit.Below w.heap.size w wr)) (fun x _ => l.length - (intOf x).toNat)
  case atStart => exact ⟨0, Nat.zero_le _, rfl, fun j hj => absurd hj (by omega), Below.refl _ _⟩
  case round =>
    obtain ⟨p, hp, rfl, hlo, hbel⟩ := hrel
    have i1 : (0 : Int) ≤ (p : Int) := by omega
    by_cases he : p < l.length
    · obtain ⟨g, off, rfl, hc⟩ := (HV.out.below hbel.out).at_ (by omega)
      obtain ⟨c0, c1⟩ := hc p he
      have hLL := HL.out p he
      have i2 : (p : Int) < (l.length : Int) := by omega
      have d1 : decide ((p : Int) < (l.length : Int)) = true := by simp; omega
      have d2 : decide (p < l.length) = true := by simp; omega
      have HNL : Hid (∀ v, RowKit.Below wr.heap.size wr v → v.cell? ⟨g, off + p * 2, none⟩ = some (.string ⟨(gN l p).toArray⟩)) := fun v hb => held c0 hb
      clear hc
      cases hd : decide (gN l p < s)
      · have HPE : Hid (P = p) := HEND.out p hp hlo.out fun _ => of_decide_eq_false hd
        rw [hd] at hLL
        clear hd
        have HI2 : Hid (I = (gN l p == s)) := by show _ = _; rw [HI.out, HPE.out]; simp [he]
        obtain ⟨N, hN⟩ : ∃ N, N = gN l p := ⟨_, rfl⟩
        rw [← hN] at c0 HI2 HNL hLL
        clear hN
        cases hq : (N == s)
        all_goals (
          go_wp2_with fail
          refine (hLL _).mono ?_
          rintro _ w2 ⟨rfl, h2⟩
          have hbb := below_then hbel.out h2
          clear c0
          have c0 := HNL.out w2 h2
          go_wp2
          go_big_quiet (fail)
          go_wp2
          go_ret2
          exact ⟨by rw [HPE.out, HI2.out, hq]; rfl, hbb.trans (below_drewN _ _ _)⟩)
      · have HLO : Hid (∀ j, j < p + 1 → gN l j < s) := fun j h1 => by
          rcases Nat.lt_or_ge j p with h2 | h2
          · exact hlo.out j h2
          · obtain rfl : j = p := by omega
            exact of_decide_eq_true hd
        rw [hd] at hLL
        clear hd
        go_wp2_with fail
        refine (hLL _).mono ?_
        rintro _ w2 ⟨rfl, h2⟩
        go_wp2
        go_roundw
        case rel => exact ⟨p + 1, by omega, by go_num, HLO, below_then hbel.out h2⟩
        case measure => simp [intOf]; omega
    · have HPE : Hid (P = p) := HEND.out p hp hlo.out fun h => absurd h he
      have HI2 : Hid (I = false) := by show _ = _; rw [HI.out, HPE.out]; simp [he]
      have d1 : decide ((p : Int) < (l.length : Int)) = false := by simp; omega
      have d2 : decide (p < l.length) = false := by simp; omega
      have d3 : ¬ (p : Int) < (l.length : Int) := by omega
      go_wp2
      go_big_quiet (fail)
      go_wp2
      go_ret2
      exact ⟨by rw [HPE.out, HI2.out]; rfl, hbel.out.trans (below_drewN _ _ _)⟩
/-- What is asked for a name: the place, whether it stands there, the error. -/
def asP (E : Int) (l : List En) (s : Nm) : Nat := if E = 0 then posE l s else 0
def asI (E : Int) (l : List En) (s : Nm) : Bool := decide (E = 0) && isE l s
theorem erN_zero {E : Int} {s : Nm} (h : erN E s = 0) : E = 0 ∧ mayN s = true := by
  unfold erN at h
  split at h
  · next h0 =>
    split at h
    · next h1 => exact ⟨h0, h1⟩
    · cases h
  · next h0 => exact absurd h h0
set_option maxHeartbeats 1000000 in
set_option maxRecDepth 100000 in
theorem asked_any {k r c q : Int} {M : Nat} {e : Int} (hp : PP k r c q M e) (w : World) (ao : Option Addr) (l : List En) (ca : Nat) (hv : Ren w ao l ca) (hf : Few l) (s : Nm) :
    Calls Try.prog 38 #[.agg #[.int .i64 k, .int .i64 r, .int .i64 c, .int .i64 q], .slice ao l.length ca, .string ⟨s.toArray⟩] w fun e' w' =>
      ∃ E, E = erN (erC e M q l) s ∧ e' = .returned (.tuple #[.int .i64 (asP E l s : Int), .bool (asI E l s), .int .i64 E]) ∧ RowKit.Below w.heap.size w w' := by
  obtain ⟨w0, hw0⟩ : ∃ w0, w0 = w.alloc (.cells #[.int .i64 k, .int .i64 r, .int .i64 c, .int .i64 q] 24) := ⟨_, rfl⟩
  have b0 : RowKit.Below w.heap.size w w0 := by rw [hw0]; exact below_alloc _ _
  have HB0 : Hid (RowKit.Below w.heap.size w w0) := b0
  have HC := Check_e hp w0 ao l ca (hv.below b0) hf
  obtain ⟨x0, x1, x2, x3⟩ := par_held hw0 (Below.refl _ _)
  have HN := NCheck_any s
  by_cases he : erC e M q l = 0
  · have HS : Hid (∀ u, RowKit.Below w0.heap.size w0 u → Calls Try.prog 34 #[.slice ao l.length ca, .string ⟨s.toArray⟩] u fun e w' => e = .returned (.tuple #[.int .i64 (posE l s : Int), .bool (isE l s)]) ∧ RowKit.Below u.heap.size u w') := fun u hu =>
      search_any u ao l ca ((hv.below b0).below hu) hf.1 (ri_of (erC_zero he).2.1) s
    rw [he] at HC ⊢
    clear he hv hf b0 hp
    cases hm : mayN s
    · rw [erM_bad hm] at HN
      go_enter Try.func38, Try.ntmps38
      go_wp2_with fail
      rw [← hw0]
      clear hw0
      refine HC.mono ?_
      rintro _ w1 ⟨rfl, h1⟩
      go_wp2_with fail
      refine (HN _).mono ?_
      rintro _ w2 ⟨rfl, rfl⟩
      go_wp2
      go_ret3
      exact ⟨6, by unfold erN; rw [hm]; rfl, rfl, below_then HB0.out h1⟩
    · rw [erM_good hm] at HN
      go_enter Try.func38, Try.ntmps38
      go_wp2_with fail
      rw [← hw0]
      clear hw0
      refine HC.mono ?_
      rintro _ w1 ⟨rfl, h1⟩
      go_wp2_with fail
      refine (HN _).mono ?_
      rintro _ w2 ⟨rfl, rfl⟩
      have hS := HS.out w2 h1
      go_wp2_with fail
      refine hS.mono ?_
      rintro _ w3 ⟨rfl, h3⟩
      go_wp2
      go_ret3
      exact ⟨0, by unfold erN; rw [hm]; rfl, rfl, below_then (below_then HB0.out h1) h3⟩
  · have hz : (erC e M q l != 0) = true := by simpa using he
    have HE : Hid (erC e M q l ≠ 0) := he
    obtain ⟨E, hE⟩ : ∃ E, E = erC e M q l := ⟨_, rfl⟩
    rw [← hE] at HC he hz HE ⊢
    clear hE
    go_enter Try.func38, Try.ntmps38
    go_wp2_with fail
    rw [← hw0]
    clear hw0
    refine HC.mono ?_
    rintro _ w1 ⟨rfl, h1⟩
    go_wp2
    go_ret3
    refine ⟨E, by unfold erN; rw [if_neg HE.out], ?_, below_then HB0.out h1⟩
    unfold asP asI
    rw [if_neg HE.out, decide_eq_false HE.out]
    rfl
set_option maxHeartbeats 1000000 in
set_option maxRecDepth 100000 in
theorem named_any {k r c q : Int} {M : Nat} {e : Int} (hp : PP k r c q M e) (w : World) (ao : Option Addr) (l : List En) (ca : Nat) (hv : Ren w ao l ca) (hf : Few l) (s : Nm) :
    Calls Try.prog 43 #[.agg #[.int .i64 k, .int .i64 r, .int .i64 c, .int .i64 q], .slice ao l.length ca, .string ⟨s.toArray⟩] w fun e' w' =>
      e' = .returned (.int .i64 (erN (erC e M q l) s)) ∧ RowKit.Below w.heap.size w w' := by
  obtain ⟨w0, hw0⟩ : ∃ w0, w0 = w.alloc (.cells #[.int .i64 k, .int .i64 r, .int .i64 c, .int .i64 q] 24) := ⟨_, rfl⟩
  have b0 : RowKit.Below w.heap.size w w0 := by rw [hw0]; exact below_alloc _ _
  have HB0 : Hid (RowKit.Below w.heap.size w w0) := b0
  have HC := RCheck_e hp w0 ao l ca (hv.below b0) hf
  obtain ⟨x0, x1, x2, x3⟩ := par_held hw0 (Below.refl _ _)
  have HN := NMay_any s
  by_cases he : erC e M q l = 0
  · rw [he] at HC ⊢
    clear he hv hf b0 hp
    cases hm : mayN s
    all_goals (
      rw [hm] at HN
      go_enter Try.func43, Try.ntmps43
      go_wp2_with fail
      rw [← hw0]
      clear hw0
      refine HC.mono ?_
      rintro _ w1 ⟨rfl, h1⟩
      go_wp2_with fail
      refine (HN _).mono ?_
      rintro _ w2 ⟨rfl, rfl⟩
      go_wp2
      go_ret
      exact ⟨by unfold erN; rw [hm]; rfl, below_then HB0.out h1⟩)
  · have hz : (erC e M q l == 0) = false := by simpa using he
    have HE : Hid (erC e M q l ≠ 0) := he
    obtain ⟨E, hE⟩ : ∃ E, E = erC e M q l := ⟨_, rfl⟩
    rw [← hE] at HC he hz HE ⊢
    clear hE
    go_enter Try.func43, Try.ntmps43
    go_wp2_with fail
    rw [← hw0]
    clear hw0
    refine HC.mono ?_
    rintro _ w1 ⟨rfl, h1⟩
    go_wp2
    go_ret
    exact ⟨by unfold erN; rw [if_neg HE.out]; rfl, below_then HB0.out h1⟩
end Go.Proofs.Ytfbfiecamaginaa
