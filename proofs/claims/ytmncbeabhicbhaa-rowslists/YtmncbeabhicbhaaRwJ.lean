/- What the document's Take and Give answer. -/
import Derived.Test.YtmncbeabhicbhaaRwI
namespace Go.Proofs.Ytmncbeabhicbhaa
open Go.RowKit

set_option maxHeartbeats 4000000 in
set_option maxRecDepth 100000 in
theorem RTake_any (k r c q : Int) (w : World) (ao : Option Addr) (n ca : Nat) (R : Nat → Int) (hv : Vec w ao n ca R) (hn : n ≤ 200000) (m : Int) (E : Int) (hE : erT (erP k r c q) q n R m = E) :
    Calls Try.prog 14 #[.agg #[.int .i64 k, .int .i64 r, .int .i64 c, .int .i64 q], .slice ao n ca, .int .i64 m] w fun e w' => AnsP w.heap.size w' e E m.toNat (n - m.toNat) R (fun i => R (m.toNat + i)) ∧ Below w.heap.size w w' := by
  obtain ⟨w0, hw0⟩ : ∃ w0, w0 = w.alloc (.cells #[.int .i64 k, .int .i64 r, .int .i64 c, .int .i64 q] 24) := ⟨_, rfl⟩
  have b0 : Below w.heap.size w w0 := by rw [hw0]; exact below_alloc _ _
  have HPAR : Hid (∀ v, Below w0.heap.size w0 v → v.cell? ⟨w.heap.size, 0, none⟩ = some (.int .i64 k) ∧ v.cell? ⟨w.heap.size, 1, none⟩ = some (.int .i64 r) ∧ v.cell? ⟨w.heap.size, 2, none⟩ = some (.int .i64 c) ∧ v.cell? ⟨w.heap.size, 3, none⟩ = some (.int .i64 q)) := fun v hv => par_held hw0 hv
  obtain ⟨x0, x1, x2, x3⟩ := HPAR.out w0 (Below.refl _ _)
  have HCK := fun w => May_any k r c q w
  have HB0 : Hid (Below w.heap.size w w0) := b0
  have HV : Hid (Vec w ao n ca R) := hv
  clear hv b0
  rcases erP_cases k r c q with hx | hx
  · rw [erP_may hx] at HCK
    obtain ⟨q1, q2⟩ := erP_rows hx
    obtain ⟨Q, rfl⟩ : ∃ Q : Nat, q = (Q : Int) := ⟨q.toNat, by omega⟩
    obtain ⟨e1, he1⟩ : ∃ e1, erL (Q : Int) n R = e1 := ⟨_, rfl⟩
    have hE' : E = if e1 = 0 then (if m < 0 then 2 else if (n : Int) < m then 4 else 0) else e1 := by
      rw [← hE]; unfold erT erM; rw [hx, if_pos rfl, he1]
    have HT : Hid (∀ v, Below w.heap.size w v → Calls Try.prog 29 #[.agg #[.int .i64 k, .int .i64 r, .int .i64 c, .int .i64 (Q : Int)], .slice ao n ca, .bool true] v fun e w' => ((e1 ≠ 0 ∧ e = .returned (.tuple #[.slice none 0 0, .int .i64 e1])) ∨ (e1 = 0 ∧ ∃ g, e = .returned (.tuple #[.slice (some ⟨g, 0, none⟩) Q Q, .int .i64 0]) ∧ v.heap.size ≤ g ∧ Mrk w' g Q (inB n R))) ∧ Below v.heap.size v w') := fun v hb => marked_any k r c Q (by omega) v ao n ca R (HV.out.below hb).rd hn true e1 ((erMk_t _ _ _).trans he1)
    clear hx hE he1
    by_cases h1 : e1 = 0
    · rw [if_pos h1] at hE'
      by_cases h2 : m < 0
      · rw [if_pos h2] at hE'
        subst hE'
        go_enter Try.func14, Try.ntmps14
        go_wp2_with fail
        rw [← hw0]
        refine (HCK _).mono ?_
        rintro e wa ⟨rfl, ha⟩
        have HBA : Hid (Below w0.heap.size w0 wa) := ha
        clear ha hw0 x0 x1 x2 x3 HCK
        obtain ⟨x0, x1, x2, x3⟩ := HPAR.out wa HBA.out
        go_wp2_with fail
        refine (HT.out _ (below_then HB0.out HBA.out)).mono ?_
        rintro e wb ⟨⟨h3, rfl⟩ | ⟨h3, g, rfl, hg, hm⟩, hb⟩
        · exact absurd h1 h3
        · have HBB : Hid (Below w.heap.size w wb) := below_then HB0.out (below_then HBA.out hb)
          clear hb HT x0 x1 x2 x3 HPAR hg hm h3
          go_wp2_with fail
          go_ret3
          exact ⟨ansP_no (by decide) rfl, HBB.out⟩
      · rw [if_neg h2] at hE'
        by_cases h4 : (n : Int) < m
        · rw [if_pos h4] at hE'
          subst hE'
          go_enter Try.func14, Try.ntmps14
          go_wp2_with fail
          rw [← hw0]
          refine (HCK _).mono ?_
          rintro e wa ⟨rfl, ha⟩
          have HBA : Hid (Below w0.heap.size w0 wa) := ha
          clear ha hw0 x0 x1 x2 x3 HCK
          obtain ⟨x0, x1, x2, x3⟩ := HPAR.out wa HBA.out
          go_wp2_with fail
          refine (HT.out _ (below_then HB0.out HBA.out)).mono ?_
          rintro e wb ⟨⟨h3, rfl⟩ | ⟨h3, g, rfl, hg, hm⟩, hb⟩
          · exact absurd h1 h3
          · have HBB : Hid (Below w.heap.size w wb) := below_then HB0.out (below_then HBA.out hb)
            clear hb HT x0 x1 x2 x3 HPAR hg hm h3
            go_wp2_with fail
            go_ret3
            exact ⟨ansP_no (by decide) rfl, HBB.out⟩
        · rw [if_neg h4] at hE'
          subst hE'
          obtain ⟨M, rfl⟩ : ∃ M : Nat, m = (M : Int) := ⟨m.toNat, by omega⟩
          rw [Int.toNat_natCast]
          have hM : M ≤ n := by omega
          have hca := HV.out.room
          by_cases h5 : ca = M
          · obtain rfl : n = M := by omega
            subst h5
            have HC1 : Hid (∀ v, Below w.heap.size w v → Vec v ao ca ca R) := fun v hb => HV.out.below hb
            have HC2 : Hid (∀ v : World, Vec v ao 0 0 (fun i => R (ca + i))) := fun v => ⟨fun h => absurd h (Nat.lt_irrefl 0), fun _ => ⟨rfl, rfl⟩, Nat.le_refl _⟩
            have m3 : (0 : Int) ≤ (ca : Int) := by omega
            go_enter Try.func14, Try.ntmps14
            go_wp2_with fail
            rw [← hw0]
            refine (HCK _).mono ?_
            rintro e wa ⟨rfl, ha⟩
            have HBA : Hid (Below w0.heap.size w0 wa) := ha
            clear ha hw0 x0 x1 x2 x3 HCK
            obtain ⟨x0, x1, x2, x3⟩ := HPAR.out wa HBA.out
            go_wp2_with fail
            refine (HT.out _ (below_then HB0.out HBA.out)).mono ?_
            rintro e wb ⟨⟨h3, rfl⟩ | ⟨h3, g, rfl, hg, hm⟩, hb⟩
            · exact absurd h1 h3
            · have HBB : Hid (Below w.heap.size w wb) := below_then HB0.out (below_then HBA.out hb)
              clear hb HT x0 x1 x2 x3 HPAR hg hm h3
              have hnn := hn
              go_wp2_with (at_builtin; first
                | (refine wpList_append_first (by rfl) (.tmp 31) (.tmp 34) (by rfl) wb.heap.size ca ca none ao R (by rfl) (by rfl) (World.ownsRow_nil _ _ _ _) (HC1.out _ HBB.out) hnn (Nat.le_refl _) ?_; intro ro rc w5 HO5 B5)
                | (refine wpList_append_first (by rfl) (.tmp 36) (.tmp 39) (by rfl) w5.heap.size 0 0 none ao (fun i => R (ca + i)) (by rfl) (by rfl) (World.ownsRow_nil _ _ _ _) (HC2.out _) (by omega) (Nat.le_refl _) ?_; intro so sc w6 HO6 B6))
              have HAN : Hid (AnsP w.heap.size w6 (.returned (.tuple #[.slice ro ca rc, .slice so 0 sc, .int .i64 0])) 0 ca (ca - ca) R (fun i => R (ca + i)) ∧ Below w.heap.size w w6) := by
                rw [Nat.sub_self]
                have hb6 := below_then HBB.out B5.out
                refine ⟨⟨ro, rc, so, sc, w5.heap.size, rfl, Own.below (HO5.out.mono HBB.out.size) B6.out, fun g e => ?_, hb6.size, HO6.out⟩, below_then hb6 B6.out⟩
                subst e
                exact own_lt HO5.out rfl
              go_ret3
              exact HAN.out
          · obtain ⟨ad, rfl⟩ : ∃ ad, ao = some ad := by
              cases ao with
              | none => have := HV.out.nil rfl; omega
              | some ad => exact ⟨ad, rfl⟩
            have HC1 : Hid (∀ v, Below w.heap.size w v → Vec v (some ad) M ca R) := fun v hb => (HV.out.below hb).cut hM
            have HC2 : Hid (∀ v, Below w.heap.size w v → Vec v (some (ad.add M)) (n - M) (ca - M) (fun i => R (M + i))) := fun v hb => (HV.out.below hb).rest hM
            have m1 : (M : Int) ≤ (ca : Int) := by omega
            have m2 : (M : Int) ≤ (n : Int) := by omega
            have m3 : (0 : Int) ≤ (M : Int) := by omega
            have m4 : (n : Int) ≤ (ca : Int) := by omega
            go_enter Try.func14, Try.ntmps14
            go_wp2_with fail
            rw [← hw0]
            refine (HCK _).mono ?_
            rintro e wa ⟨rfl, ha⟩
            have HBA : Hid (Below w0.heap.size w0 wa) := ha
            clear ha hw0 x0 x1 x2 x3 HCK
            obtain ⟨x0, x1, x2, x3⟩ := HPAR.out wa HBA.out
            go_wp2_with fail
            refine (HT.out _ (below_then HB0.out HBA.out)).mono ?_
            rintro e wb ⟨⟨h3, rfl⟩ | ⟨h3, g, rfl, hg, hm⟩, hb⟩
            · exact absurd h1 h3
            · have HBB : Hid (Below w.heap.size w wb) := below_then HB0.out (below_then HBA.out hb)
              clear hb HT x0 x1 x2 x3 HPAR hg hm h3
              have n1 : M ≤ 200000 := by omega
              have n2 : n - M ≤ 200000 := by omega
              go_wp2_with (at_builtin; first
                | (refine wpList_append_first (by rfl) (.tmp 31) (.tmp 34) (by rfl) wb.heap.size M ca none (some ad) R (by rfl) (by rfl) (World.ownsRow_nil _ _ _ _) (HC1.out _ HBB.out) n1 (Nat.le_refl _) ?_; intro ro rc w5 HO5 B5)
                | (refine wpList_append_first (by rfl) (.tmp 36) (.tmp 39) (by rfl) w5.heap.size (n - M) (ca - M) none (some (ad.add M)) (fun i => R (M + i)) (by rfl) (by rfl) (World.ownsRow_nil _ _ _ _) (HC2.out _ (below_then HBB.out B5.out)) n2 (Nat.le_refl _) ?_; intro so sc w6 HO6 B6))
              have HAN : Hid (AnsP w.heap.size w6 (.returned (.tuple #[.slice ro M rc, .slice so (n - M) sc, .int .i64 0])) 0 M (n - M) R (fun i => R (M + i)) ∧ Below w.heap.size w w6) := by
                have hb6 := below_then HBB.out B5.out
                refine ⟨⟨ro, rc, so, sc, w5.heap.size, rfl, Own.below (HO5.out.mono HBB.out.size) B6.out, fun g e => ?_, hb6.size, HO6.out⟩, below_then hb6 B6.out⟩
                subst e
                exact own_lt HO5.out rfl
              go_ret3
              exact HAN.out
    · rw [if_neg h1] at hE'
      subst hE'
      go_enter Try.func14, Try.ntmps14
      go_wp2_with fail
      rw [← hw0]
      refine (HCK _).mono ?_
      rintro e wa ⟨rfl, ha⟩
      have HBA : Hid (Below w0.heap.size w0 wa) := ha
      clear ha hw0 x0 x1 x2 x3 HCK
      obtain ⟨x0, x1, x2, x3⟩ := HPAR.out wa HBA.out
      go_wp2_with fail
      refine (HT.out _ (below_then HB0.out HBA.out)).mono ?_
      rintro e wb ⟨⟨h3, rfl⟩ | ⟨h3, g, rfl, hg, hm⟩, hb⟩
      · have HBB : Hid (Below w.heap.size w wb) := below_then HB0.out (below_then HBA.out hb)
        clear hb HT x0 x1 x2 x3 HPAR
        go_wp2_with fail
        go_ret3
        exact ⟨ansP_no h1 rfl, HBB.out⟩
      · exact absurd h3 h1
  · rw [not_may hx] at HCK
    have hE' : E = 2 := by rw [← hE]; unfold erT erM; rw [hx]; rfl
    subst hE'
    clear hE
    go_enter Try.func14, Try.ntmps14
    go_wp2_with fail
    rw [← hw0]
    refine (HCK _).mono ?_
    rintro e wa ⟨rfl, ha⟩
    clear hw0 x0 x1 x2 x3 HCK HPAR
    go_wp2_with fail
    go_ret3
    exact ⟨ansP_no (by decide) rfl, below_then HB0.out ha⟩
end Go.Proofs.Ytmncbeabhicbhaa
