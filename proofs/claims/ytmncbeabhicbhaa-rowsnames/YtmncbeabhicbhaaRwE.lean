/- What Take of the program answers. -/
import Derived.Test.YtmncbeabhicbhaaRwD
namespace Go.Proofs.Ytmncbeabhicbhaa
open Go.RowKit

theorem Vec.cut {w : World} {ao : Option Addr} {n ca M : Nat} {R : Nat → Int} (h : Vec w ao n ca R) (hM : M ≤ n) : Vec w ao M ca R := by
  refine ⟨fun hp => ?_, fun e => ?_, ?_⟩
  · obtain ⟨b, off, e, hc⟩ := h.rd (by omega)
    exact ⟨b, off, e, fun i hi => hc i (by omega)⟩
  · have := h.nil e; omega
  · have := h.room; omega
theorem Vec.rest {w : World} {ad : Addr} {n ca M : Nat} {R : Nat → Int} (h : Vec w (some ad) n ca R) (hM : M ≤ n) : Vec w (some (ad.add M)) (n - M) (ca - M) (fun i => R (M + i)) := by
  refine ⟨fun hp => ?_, fun e => ?_, ?_⟩
  · obtain ⟨b, off, e, hc⟩ := h.rd (by omega)
    cases e
    refine ⟨b, off + M, by rw [Addr.add_lit], fun i hi => ?_⟩
    rw [Nat.add_assoc]; exact hc _ (by omega)
  · cases e
  · have := h.room; omega
/-- A list and an error. -/
def AnsR (B : Nat) (w' : World) (e : Ending) (E : Int) (n : Nat) (F : Nat → Int) : Prop := ∃ ao ca, e = .returned (.tuple #[.slice ao (lenE E n) ca, .int .i64 E]) ∧ Own B w' ao (lenE E n) ca F
/-- Two lists, apart, and an error. -/
def AnsP (B : Nat) (w' : World) (e : Ending) (E : Int) (m n : Nat) (F G : Nat → Int) : Prop :=
  ∃ ao ca bo cb T, e = .returned (.tuple #[.slice ao (lenE E m) ca, .slice bo (lenE E n) cb, .int .i64 E]) ∧ Own B w' ao (lenE E m) ca F ∧ (∀ g, ao = some ⟨g, 0, none⟩ → g < T) ∧ B ≤ T ∧ Own T w' bo (lenE E n) cb G
theorem own_lt {B : Nat} {w : World} {ao : Option Addr} {n cap g : Nat} {R : Nat → Int} (h : Own B w ao n cap R) (e : ao = some ⟨g, 0, none⟩) : g < w.heap.size := by
  subst e
  rcases h.2 with ⟨h1, _⟩ | ⟨g', cap', cur, h1, h2, h3, _⟩
  · cases h1
  · cases h1
    exact (Array.getElem?_eq_some_iff.1 h3).1
theorem ansP_no {B : Nat} {w' : World} {e : Ending} {E : Int} {m n : Nat} {F G : Nat → Int} (h : E ≠ 0) (he : e = .returned (.tuple #[.slice none 0 0, .slice none 0 0, .int .i64 E])) : AnsP B w' e E m n F G := by
  unfold AnsP
  rw [show lenE E m = 0 from if_neg h, show lenE E n = 0 from if_neg h]
  exact ⟨none, 0, none, 0, B, he, own_nil _ _ _, (fun g e => by cases e), Nat.le_refl _, own_nil _ _ _⟩
set_option maxHeartbeats 2000000 in
set_option maxRecDepth 100000 in
theorem Take_any (k r c q : Int) (w : World) (ao : Option Addr) (n ca : Nat) (R : Nat → Int) (hv : Vec w ao n ca R) (hn : n ≤ 200000) (m : Int) (E : Int) (hE : erT (erP k r c q) q n R m = E) :
    Calls Try.prog 10 #[.agg #[.int .i64 k, .int .i64 r, .int .i64 c, .int .i64 q], .slice ao n ca, .int .i64 m] w fun e w' => AnsP w.heap.size w' e E m.toNat (n - m.toNat) R (fun i => R (m.toNat + i)) ∧ Below w.heap.size w w' := by
  obtain ⟨w0, hw0⟩ : ∃ w0, w0 = w.alloc (.cells #[.int .i64 k, .int .i64 r, .int .i64 c, .int .i64 q] 24) := ⟨_, rfl⟩
  have b0 : Below w.heap.size w w0 := by rw [hw0]; exact below_alloc _ _
  obtain ⟨x0, x1, x2, x3⟩ := par_held hw0 (Below.refl _ _)
  obtain ⟨e1, he1⟩ : ∃ e1, erM (erP k r c q) q n R = e1 := ⟨_, rfl⟩
  have hsz : w0.heap.size = w.heap.size + 1 := by rw [hw0]; simp
  have HM : Hid (Calls Try.prog 23 #[.agg #[.int .i64 k, .int .i64 r, .int .i64 c, .int .i64 q], .slice (some ⟨w.heap.size + 1, 0, none⟩) 1 1] (w0.alloc (.cells #[.slice ao n ca] 26)) fun e w' => e = .returned (.int .i64 e1) ∧ Below w.heap.size w w') := by
    have hb := below_then b0 (below_alloc w0 (.cells #[.slice ao n ca] 26))
    have h := may1_any k r c q (w0.alloc (.cells #[.slice ao n ca] 26)) w0.heap.size ao n ca R (blk_held (w := w0) rfl (Below.refl _ _) 0 rfl) (hv.below hb).rd hn e1 he1
    rw [hsz] at h
    exact h.mono fun e w' hh => ⟨hh.1, below_then hb hh.2⟩
  clear hsz
  have HB0 : Hid (Below w.heap.size w w0) := b0
  have HV : Hid (Vec w ao n ca R) := hv
  clear hv b0
  unfold erT at hE
  rw [he1] at hE
  clear he1
  by_cases h1 : e1 = 0
  · subst h1
    rw [if_pos rfl] at hE
    by_cases h2 : m < 0
    · rw [if_pos h2] at hE
      subst hE
      go_enter Try.func10, Try.ntmps10
      go_wp2_with fail
      rw [← hw0]
      refine HM.out.mono ?_
      rintro e wa ⟨rfl, ha⟩
      have HBA : Hid (Below w.heap.size w wa) := ha
      clear ha HM hw0 x0 x1 x2 x3
      go_wp2_with fail
      go_ret3
      exact ⟨ansP_no (by decide) rfl, HBA.out⟩
    · rw [if_neg h2] at hE
      by_cases h3 : (n : Int) < m
      · rw [if_pos h3] at hE
        subst hE
        go_enter Try.func10, Try.ntmps10
        go_wp2_with fail
        rw [← hw0]
        refine HM.out.mono ?_
        rintro e wa ⟨rfl, ha⟩
        have HBA : Hid (Below w.heap.size w wa) := ha
        clear ha HM hw0 x0 x1 x2 x3
        go_wp2_with fail
        go_ret3
        exact ⟨ansP_no (by decide) rfl, HBA.out⟩
      · rw [if_neg h3] at hE
        subst hE
        obtain ⟨M, rfl⟩ : ∃ M : Nat, m = (M : Int) := ⟨m.toNat, by omega⟩
        rw [Int.toNat_natCast]
        have hM : M ≤ n := by omega
        have hca := HV.out.room
        by_cases h4 : ca = M
        · obtain rfl : n = M := by omega
          subst h4
          have HC1 : Hid (∀ v, Below w.heap.size w v → Calls Try.prog 24 #[.slice ao ca ca] v fun e w' => ∃ ro cap, e = .returned (.slice ro ca cap) ∧ Own v.heap.size w' ro ca cap R ∧ Below v.heap.size v w') := fun v hb => copy_any v _ _ _ _ (HV.out.below hb) (by omega)
          have HC2 : Hid (∀ v, Below w.heap.size w v → Calls Try.prog 24 #[.slice ao 0 0] v fun e w' => ∃ ro cap, e = .returned (.slice ro 0 cap) ∧ Own v.heap.size w' ro 0 cap (fun i => R (ca + i)) ∧ Below v.heap.size v w') := fun v hb => copy_any v _ _ _ _ ⟨fun h => absurd h (Nat.lt_irrefl 0), fun _ => ⟨rfl, rfl⟩, Nat.le_refl _⟩ (by omega)
          have m3 : (0 : Int) ≤ (ca : Int) := by omega
          go_enter Try.func10, Try.ntmps10
          go_wp2_with fail
          rw [← hw0]
          refine HM.out.mono ?_
          rintro e wa ⟨rfl, ha⟩
          have HBA : Hid (Below w.heap.size w wa) := ha
          clear ha HM hw0 x0 x1 x2 x3
          go_wp2_with fail
          go_region_held3 (fun _ => True) (trivial)
            ((first
              | (go_at_call_of 24 (Value.slice ao ca ca); refine (HC1.out _ (below_then HBA.out (below_drew _ _))).mono ?_; rintro e wp ⟨ro, rc, rfl, h5, h6⟩)
              | (go_at_call_of 24 (Value.slice ao 0 0); refine (HC2.out _ (below_then (below_then HBA.out (below_drew _ _)) h6)).mono ?_; rintro e wq ⟨so, sc, rfl, h7, h8⟩)))
          have HAN : Hid (AnsP w.heap.size wq (.returned (.tuple #[.slice ro ca rc, .slice so 0 sc, .int .i64 0])) 0 ca (ca - ca) R (fun i => R (ca + i)) ∧ Below w.heap.size w wq) := by
            have hbp := below_then HBA.out (below_drew wa.heap.size wa)
            have hb6 := below_then hbp h6
            rw [Nat.sub_self]
            refine ⟨⟨ro, rc, so, sc, wp.heap.size, rfl, Own.below (h5.mono hbp.size) h8, fun g e => ?_, hb6.size, h7⟩, below_then hb6 h8⟩
            subst e
            exact own_lt h5 rfl
          clear h5 h6 h7 h8
          go_wp2_with fail
          go_ret3
          exact HAN.out
        · obtain ⟨ad, rfl⟩ : ∃ ad, ao = some ad := by
            cases ao with
            | none => have := HV.out.nil rfl; omega
            | some ad => exact ⟨ad, rfl⟩
          have HC1 : Hid (∀ v, Below w.heap.size w v → Calls Try.prog 24 #[.slice (some ad) M ca] v fun e w' => ∃ ro cap, e = .returned (.slice ro M cap) ∧ Own v.heap.size w' ro M cap R ∧ Below v.heap.size v w') := fun v hb => copy_any v _ _ _ _ ((HV.out.below hb).cut hM) (by omega)
          have HC2 : Hid (∀ v, Below w.heap.size w v → Calls Try.prog 24 #[.slice (some (ad.add M)) (n - M) (ca - M)] v fun e w' => ∃ ro cap, e = .returned (.slice ro (n - M) cap) ∧ Own v.heap.size w' ro (n - M) cap (fun i => R (M + i)) ∧ Below v.heap.size v w') := fun v hb => copy_any v _ _ _ _ ((HV.out.below hb).rest hM) (by omega)
          have m1 : (M : Int) ≤ (ca : Int) := by omega
          have m2 : (M : Int) ≤ (n : Int) := by omega
          have m3 : (0 : Int) ≤ (M : Int) := by omega
          have m4 : (n : Int) ≤ (ca : Int) := by omega
          go_enter Try.func10, Try.ntmps10
          go_wp2_with fail
          rw [← hw0]
          refine HM.out.mono ?_
          rintro e wa ⟨rfl, ha⟩
          have HBA : Hid (Below w.heap.size w wa) := ha
          clear ha HM hw0 x0 x1 x2 x3
          go_wp2_with fail
          go_region_held3 (fun _ => True) (trivial)
            ((first
              | (go_at_call_of 24 (Value.slice (some ad) M ca); refine (HC1.out _ (below_then HBA.out (below_drew _ _))).mono ?_; rintro e wp ⟨ro, rc, rfl, h5, h6⟩)
              | (go_at_call_of 24 (Value.slice (some (ad.add M)) (n - M) (ca - M)); refine (HC2.out _ (below_then (below_then HBA.out (below_drew _ _)) h6)).mono ?_; rintro e wq ⟨so, sc, rfl, h7, h8⟩)))
          have HAN : Hid (AnsP w.heap.size wq (.returned (.tuple #[.slice ro M rc, .slice so (n - M) sc, .int .i64 0])) 0 M (n - M) R (fun i => R (M + i)) ∧ Below w.heap.size w wq) := by
            have hbp := below_then HBA.out (below_drew wa.heap.size wa)
            have hb6 := below_then hbp h6
            refine ⟨⟨ro, rc, so, sc, wp.heap.size, rfl, Own.below (h5.mono hbp.size) h8, fun g e => ?_, hb6.size, h7⟩, below_then hb6 h8⟩
            subst e
            exact own_lt h5 rfl
          clear h5 h6 h7 h8
          go_wp2_with fail
          go_ret3
          exact HAN.out
  · rw [if_neg h1] at hE
    subst hE
    go_enter Try.func10, Try.ntmps10
    go_wp2_with fail
    rw [← hw0]
    refine HM.out.mono ?_
    rintro e wa ⟨rfl, ha⟩
    have HBA : Hid (Below w.heap.size w wa) := ha
    clear ha HM hw0 x0 x1 x2 x3
    go_wp2_with fail
    go_ret3
    exact ⟨ansP_no h1 rfl, HBA.out⟩
end Go.Proofs.Ytmncbeabhicbhaa
