/- What Give of the program answers. -/
import Derived.Test.YtmncbeabhicbhaaRwE
import Derived.Test.YtmncbeabhicbhaaRwMb
import Derived.Test.YtmncbeabhicbhaaShf
namespace Go.Proofs.Ytmncbeabhicbhaa
open Go.RowKit Go.Sort

theorem zOf_ls (n : Nat) (R : Nat → Int) : zOf n R = (lsI n R).map (Value.int .i64) := by unfold zOf lsI; rw [List.map_map]; rfl
/-- A list of the call's own is sorted: it holds the same numbers, sorted. -/
theorem sort_own (B : Nat) (w : World) (ao : Option Addr) (n ca : Nat) (R : Nat → Int) (h : Own B w ao n ca R) (hn : n ≤ 400000) :
    Calls Try.prog 26 #[.slice ao n ca] w fun e w' => e = .returned (.tuple #[]) ∧ Own B w' ao n ca (soF (lsI n R)) ∧ Below B w w' := by
  have h0 := h
  rcases h.2 with ⟨h1, h2⟩ | ⟨g, cap', cur, h1, h2, h3, h4, h5, h6, h7⟩
  · cases h1
    refine (slices_Sort_none none 0 w).mono ?_
    rintro e w' ⟨rfl, rfl⟩
    exact ⟨rfl, own_nil _ _ _, Below.refl _ _⟩
  · cases h1
    have hH : Holds (Value.int .i64) w g 0 (lsI n R).toArray := fun j hj => by
      have hj2 : j < n := by simpa [lsI_length] using hj
      rw [Nat.zero_add]
      refine ⟨?_, h0.free j⟩
      rw [h0.cell hj2, getElem!_pos _ j hj]
      have := lsI_get (R := R) hj2
      rw [List.getElem?_eq_getElem (by rw [lsI_length]; exact hj2)] at this
      simp [Option.some.inj this]
    have hlt : g < w.heap.size := (Array.getElem?_eq_some_iff.1 h3).1
    have hS := slices_Sort_int g 0 ca (lsI n R) w hH hlt (by rw [lsI_length]; omega)
    rw [lsI_length] at hS
    refine hS.mono ?_
    rintro e w' ⟨rfl, nn, os, rfl⟩
    have hx := ownsRow_sorted_i (n := nn) (os := os) (sort_length (lsI n R)) h2 h3 (by rw [lsI_length]; exact h4) h5 h6
    rw [lsI_length] at hx
    refine ⟨rfl, ?_, (Below.refl B w).grown (grownBy_sorted_i _) (by omega) (fun q hq => by cases hq; exact h2)⟩
    unfold Own
    rw [zOf_ls]
    have := soF_ls (lsI n R)
    rw [lsI_length] at this
    rw [this]
    exact hx
theorem lsI_fun {n : Nat} {F G : Nat → Int} (h : lsI n F = lsI n G) : ∀ i, i < n → F i = G i := fun i hi => by
  have h1 := lsI_get (R := F) hi
  rw [h, lsI_get hi] at h1
  exact (Option.some.inj h1).symm
theorem ansR_no {B : Nat} {w' : World} {e : Ending} {E : Int} {n : Nat} {F : Nat → Int} (h : E ≠ 0) (he : e = .returned (.tuple #[.slice none 0 0, .int .i64 E])) : AnsR B w' e E n F := by
  unfold AnsR
  rw [show lenE E n = 0 from if_neg h]
  exact ⟨none, 0, he, own_nil _ _ _⟩
theorem erP_may {k r c q : Int} (h : erP k r c q = 0) : may k r c q = true := by
  unfold erP at h
  split at h
  · assumption
  · exact absurd h (by decide)
theorem erP_rows {k r c q : Int} (h : erP k r c q = 0) : 8 ≤ q ∧ q ≤ 256 := by
  have := may_true (erP_may h); omega
theorem er2M_of {x q : Int} {n m : Nat} {R S : Nat → Int} (h : er2M x q n R m S = 0) : x = 0 ∧ erL q n R = 0 ∧ erL q m S = 0 := by
  unfold er2M at h
  by_cases h1 : erM x q n R = 0
  · rw [if_pos h1] at h
    unfold erM at h1
    by_cases h2 : x = 0
    · rw [if_pos h2] at h1; exact ⟨h2, h1, h⟩
    · rw [if_neg h2] at h1; exact absurd h1 h2
  · rw [if_neg h1] at h; exact absurd h h1
theorem erL_of {q : Int} {n : Nat} {R : Nat → Int} (h : erL q n R = 0) : n ≤ 65536 ∧ (∀ i, i < n → 0 ≤ R i ∧ R i < q) ∧ rsB n R = true := by
  rcases erL_cases q n R with ⟨h1, h2⟩ | ⟨h1, h3, h2⟩ | ⟨h1, h3, h2⟩
  · rw [h2] at h; exact absurd h h1
  · rcases erH_cases q n R with ⟨g1, g2⟩ | ⟨g1, g3, g2⟩ | ⟨g1, g3, g2⟩
    · rw [g2] at h1; exact absurd h1 (by decide)
    · exact ⟨g1, g3, h3⟩
    · rw [g2] at h1; exact absurd h1 (by decide)
  · rw [h2] at h; exact absurd h (by decide)
set_option maxHeartbeats 2000000 in
set_option maxRecDepth 100000 in
theorem Give_any (k r c q : Int) (w : World) (ao bo : Option Addr) (n ca m cb : Nat) (R S : Nat → Int) (hv : Vec w ao n ca R) (hu : Vec w bo m cb S) (hn : n ≤ 200000) (hm : m ≤ 200000) (E : Int) (hE : erG (erP k r c q) q n R m S = E) :
    Calls Try.prog 11 #[.agg #[.int .i64 k, .int .i64 r, .int .i64 c, .int .i64 q], .slice ao n ca, .slice bo m cb] w fun e w' => AnsR w.heap.size w' e E (cnt (twB n R m S) q.toNat) (sel (twB n R m S) q.toNat) ∧ Below w.heap.size w w' := by
  obtain ⟨w0, hw0⟩ : ∃ w0, w0 = w.alloc (.cells #[.int .i64 k, .int .i64 r, .int .i64 c, .int .i64 q] 24) := ⟨_, rfl⟩
  have b0 : Below w.heap.size w w0 := by rw [hw0]; exact below_alloc _ _
  obtain ⟨x0, x1, x2, x3⟩ := par_held hw0 (Below.refl _ _)
  obtain ⟨e1, he1⟩ : ∃ e1, er2M (erP k r c q) q n R m S = e1 := ⟨_, rfl⟩
  have hsz : w0.heap.size = w.heap.size + 1 := by rw [hw0]; simp
  have HM : Hid (Calls Try.prog 23 #[.agg #[.int .i64 k, .int .i64 r, .int .i64 c, .int .i64 q], .slice (some ⟨w.heap.size + 1, 0, none⟩) 2 2] (w0.alloc (.cells #[.slice ao n ca, .slice bo m cb] 26)) fun e w' => e = .returned (.int .i64 e1) ∧ Below w.heap.size w w') := by
    have hb := below_then b0 (below_alloc w0 (.cells #[.slice ao n ca, .slice bo m cb] 26))
    have h := may2_any k r c q (w0.alloc (.cells #[.slice ao n ca, .slice bo m cb] 26)) w0.heap.size ao n ca R (blk_held (w := w0) rfl (Below.refl _ _) 0 rfl) (hv.below hb).rd hn bo m cb S (blk_held (w := w0) rfl (Below.refl _ _) 1 rfl) (hu.below hb).rd hm e1 he1
    rw [hsz] at h
    exact h.mono fun e w' hh => ⟨hh.1, below_then hb hh.2⟩
  clear hsz
  have HCC : Hid (∀ v, Below w.heap.size w v → Calls Try.prog 25 #[.slice (some ⟨v.heap.size, 0, none⟩) 2 2] (v.alloc (.cells #[.slice ao n ca, .slice bo m cb] 26)) fun e w' => ∃ ro rc, e = .returned (.slice ro (n + m) rc) ∧ Own w.heap.size w' ro (n + m) rc (app n R S) ∧ Below w.heap.size w w') := fun v hb => by
    have hb1 := below_then hb (below_alloc v (.cells #[.slice ao n ca, .slice bo m cb] 26))
    refine (concatI_any _ v.heap.size ao bo n ca m cb R S (blk_held (w := v) rfl (Below.refl _ _) 0 rfl) (blk_held (w := v) rfl (Below.refl _ _) 1 rfl) hn hm (hv.below hb1) (hu.below hb1)).mono ?_
    rintro e w' ⟨ro, rc, rfl, h1, h2⟩
    exact ⟨ro, rc, rfl, h1.mono hb1.size, below_then hb1 h2⟩
  have HB0 : Hid (Below w.heap.size w w0) := b0
  clear hv hu b0
  by_cases h1 : e1 = 0
  · obtain ⟨g0, g1, g2⟩ := er2M_of (he1.trans h1)
    obtain ⟨a1, a2, a3⟩ := erL_of g1
    obtain ⟨b1, b2, b3⟩ := erL_of g2
    obtain ⟨q1, q2⟩ := erP_rows g0
    have hE' : E = if apB n R m S = true then 0 else 200 := by rw [← hE]; unfold erG; rw [if_pos (he1.trans h1)]
    have hnd : rsB (n + m) (soF (lsI (n + m) (app n R S))) = apB n R m S := by
      have h3 := soF_nodup (lsI (n + m) (app n R S))
      rw [lsI_length] at h3
      have h4 := app_nodup a3 b3
      rw [← lsI_app] at h4
      cases h5 : apB n R m S
      · cases h6 : rsB (n + m) (soF (lsI (n + m) (app n R S)))
        · rfl
        · have := h4.1 (h3.1 h6); rw [h5] at this; cases this
      · exact h3.2 (h4.2 h5)
    have HSR : Hid (∀ v ro rc, Own w.heap.size v ro (n + m) rc (app n R S) → Calls Try.prog 26 #[.slice ro (n + m) rc] v fun e w' => e = .returned (.tuple #[]) ∧ Own w.heap.size w' ro (n + m) rc (soF (lsI (n + m) (app n R S))) ∧ Below w.heap.size v w') := fun v ro rc h => sort_own _ v ro _ rc _ h (by omega)
    have HRS : Hid (∀ v ro rc, Own w.heap.size v ro (n + m) rc (soF (lsI (n + m) (app n R S))) → Calls Try.prog 27 #[.slice ro (n + m) rc] v fun e w' => e = .returned (.bool (apB n R m S)) ∧ ∃ q, w' = v.drewN q) := fun v ro rc h => by
      have := rise_of v ro (n + m) rc _ (Own.vec h).rd (by omega)
      rw [hnd] at this; exact this
    have HFN : Hid (apB n R m S = true → ∀ v ro rc, Own w.heap.size v ro (n + m) rc (soF (lsI (n + m) (app n R S))) → AnsR w.heap.size v (.returned (.tuple #[.slice ro (n + m) rc, .int .i64 0])) 0 (cnt (twB n R m S) q.toNat) (sel (twB n R m S) q.toNat)) := fun h v ro rc ho => by
      have hq : ((q.toNat : Nat) : Int) = q := by omega
      have e1 := both_length (Q := q.toNat) a3 b3 (by rw [hq]; exact a2) (by rw [hq]; exact b2) h
      have e2 := both_sorted (Q := q.toNat) a3 b3 (by rw [hq]; exact a2) (by rw [hq]; exact b2) h
      rw [← lsI_app, ← soF_ls, lsI_length, e1] at e2
      unfold AnsR
      rw [show lenE 0 (cnt (twB n R m S) q.toNat) = cnt (twB n R m S) q.toNat from if_pos rfl]
      rw [← e1]
      refine ⟨ro, rc, rfl, ho.congr fun i hi => ?_⟩
      rw [← e1] at e2
      exact lsI_fun e2 i hi
    subst h1
    clear he1 hE hnd a1 a2 a3 b1 b2 b3 g0 g1 g2
    have hE3 : Hid (E = if apB n R m S = true then 0 else 200) := hE'
    obtain ⟨t, ht⟩ : ∃ t, t = n + m := ⟨_, rfl⟩
    rw [← ht] at HCC HSR HRS HFN
    clear hE' ht
    go_enter Try.func11, Try.ntmps11
    go_wp2_with fail
    rw [← hw0]
    refine HM.out.mono ?_
    rintro e wa ⟨rfl, ha⟩
    have HBA : Hid (Below w.heap.size w wa) := ha
    clear ha HM hw0 x0 x1 x2 x3
    go_wp2_with fail
    refine (HCC.out _ HBA.out).mono ?_
    rintro e wb ⟨ro, rc, rfl, ho, hb⟩
    have HO : Hid (Own w.heap.size wb ro t rc (app n R S)) := ho
    have HBB : Hid (Below w.heap.size w wb) := hb
    clear ho hb HCC
    go_wp2_with fail
    refine (HSR.out _ _ _ HO.out).mono ?_
    rintro e wc ⟨rfl, ho, hb⟩
    have HO2 : Hid (Own w.heap.size wc ro t rc (soF (lsI t (app n R S)))) := ho
    have HBC : Hid (Below w.heap.size w wc) := HBB.out.trans hb
    clear ho hb HSR
    go_wp2_with fail
    have HR3 := HRS.out _ _ _ HO2.out
    cases hap : apB n R m S
    · rw [hap] at HR3 hE3
      refine HR3.mono ?_
      rintro e wd ⟨rfl, q', rfl⟩
      obtain rfl : E = 200 := hE3.out
      clear HR3 HRS
      go_wp2_with fail
      go_ret2
      exact ⟨ansR_no (by decide) rfl, below_then HBC.out (below_drewN _ _ _)⟩
    · rw [hap] at HR3 hE3
      have HF := HFN.out hap
      refine HR3.mono ?_
      rintro e wd ⟨rfl, q', rfl⟩
      obtain rfl : E = 0 := hE3.out
      have HFX : Hid (AnsR w.heap.size (wc.drewN q') (.returned (.tuple #[.slice ro t rc, .int .i64 0])) 0 (cnt (twB n R m S) q.toNat) (sel (twB n R m S) q.toNat)) := HF _ _ _ (Own.below HO2.out (below_drewN _ _ _))
      clear HR3 HRS HF
      go_wp2_with fail
      go_ret2
      exact ⟨HFX.out, below_then HBC.out (below_drewN _ _ _)⟩
  · have hE' : E = e1 := by rw [← hE]; unfold erG; rw [he1, if_neg h1]
    subst hE'
    clear he1 hE HCC
    go_enter Try.func11, Try.ntmps11
    go_wp2_with fail
    rw [← hw0]
    refine HM.out.mono ?_
    rintro e wa ⟨rfl, ha⟩
    have HBA : Hid (Below w.heap.size w wa) := ha
    clear ha HM hw0 x0 x1 x2 x3
    go_wp2_with fail
    go_ret2
    exact ⟨ansR_no h1 rfl, HBA.out⟩
end Go.Proofs.Ytmncbeabhicbhaa
