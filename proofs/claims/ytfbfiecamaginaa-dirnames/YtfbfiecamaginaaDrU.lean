/- Parse, by both. -/
import Derived.Test.YtfbfiecamaginaaDrT
namespace Go.Proofs.Ytfbfiecamaginaa
open Go.RowKit Go.Sort

theorem erB_no {e : Int} {M : Nat} {q : Int} {n : Nat} {l : List En} {rest : List UInt8} (h : e ≠ 0) : erB e M q n l rest = e := by unfold erB; rw [if_neg h]
theorem erB_big {M : Nat} {q : Int} {n : Nat} {l : List En} {rest : List UInt8} (h : M < n) : erB 0 M q n l rest = 3 := by unfold erB; rw [if_pos rfl, if_pos h]
theorem erB_cut {M : Nat} {q : Int} {n : Nat} {l : List En} {rest : List UInt8} (h : ¬ M < n) (g : rest ≠ []) : erB 0 M q n l rest = 220 := by unfold erB; rw [if_pos rfl, if_neg h, if_neg (fun x => g x.1)]
theorem erB_bad {M : Nat} {q : Int} {n : Nat} {l : List En} {rest : List UInt8} (h : ¬ M < n) (g : mayE q l = false) : erB 0 M q n l rest = 220 := by unfold erB; rw [if_pos rfl, if_neg h, if_neg (fun x => by rw [x.2] at g; cases g)]
theorem erB_good {M : Nat} {q : Int} {n : Nat} {l : List En} {rest : List UInt8} (h : ¬ M < n) (g : rest = []) (g2 : mayE q l = true) : erB 0 M q n l rest = 0 := by unfold erB; rw [if_pos rfl, if_neg h, if_pos ⟨g, g2⟩]
set_option maxHeartbeats 1000000 in
set_option maxRecDepth 100000 in
theorem Parse_any {k r c q : Int} {M : Nat} {e : Int} (hp : PP k r c q M e) (w : World) (ao : Option Addr) (b : List UInt8) (ca : Nat) (hv : Reb w ao b ca) (hn : b.length ≤ 100000) (l : List En) (rest : List UInt8) (hpr : Prs b l rest) :
    Calls Try.prog 12 #[.agg #[.int .i64 k, .int .i64 r, .int .i64 c, .int .i64 q], .slice ao b.length ca] w fun e' w' =>
      ∃ E bo cb L, E = erB e M q b.length l rest ∧ L = (if E = 0 then l else []) ∧ e' = .returned (.tuple #[.slice bo L.length cb, .int .i64 E]) ∧ OwE w.heap.size w' bo L cb ∧ RowKit.Below w.heap.size w w' := by
  obtain ⟨w0, hw0⟩ : ∃ w0, w0 = w.alloc (.cells #[.int .i64 k, .int .i64 r, .int .i64 c, .int .i64 q] 24) := ⟨_, rfl⟩
  have b0 : RowKit.Below w.heap.size w w0 := by rw [hw0]; exact below_alloc _ _
  have HPAR : Hid (∀ v, RowKit.Below w0.heap.size w0 v → v.cell? ⟨w.heap.size, 0, none⟩ = some (.int .i64 k) ∧ v.cell? ⟨w.heap.size, 1, none⟩ = some (.int .i64 r) ∧ v.cell? ⟨w.heap.size, 2, none⟩ = some (.int .i64 c) ∧ v.cell? ⟨w.heap.size, 3, none⟩ = some (.int .i64 q)) := fun v hv => par_held hw0 hv
  have HV : Hid (Reb w0 ao b ca) := hv.below b0
  have HB0 : Hid (RowKit.Below w.heap.size w w0) := b0
  have HC := hp.most
  obtain ⟨x0, x1, x2, x3⟩ := HPAR.out w0 (Below.refl _ _)
  have HEN : Hid (∀ u, RowKit.Below w0.heap.size w0 u → Calls Try.prog 37 #[.slice ao b.length ca] u fun e' w' => ∃ bo cb L ro rc, L = l ∧ e' = .returned (.tuple #[.slice bo L.length cb, .slice ro rest.length rc]) ∧ OwE u.heap.size w' bo L cb ∧ RowKit.Below u.heap.size u w') := fun u hu => entries_any u ao b ca (HV.out.below hu) hn l rest hpr
  have hln : l.length ≤ 100000 := by have := prs_sz hpr; have := sz_len l; omega
  have HM : Hid (∀ u uo uc, Ren u uo l uc → Calls Try.prog 33 #[.agg #[.int .i64 k, .int .i64 r, .int .i64 c, .int .i64 q], .slice uo l.length uc] u fun e w' => e = .returned (.bool (mayE q l)) ∧ RowKit.Below u.heap.size u w') := fun u uo uc hu => may_any k r c q u uo l uc hu (by omega)
  clear hv b0 hp hpr
  by_cases he : e = 0
  · subst he
    by_cases hbig : M < b.length
    · have hb1 : (M : Int) < (b.length : Int) := by omega
      have HBG : Hid (M < b.length) := hbig
      clear hbig
      go_enter Try.func12, Try.ntmps12
      go_wp2_with fail
      rw [← hw0]
      clear hw0
      refine (HC _).mono ?_
      rintro _ w1 ⟨rfl, h1⟩
      go_wp2
      go_ret2
      exact ⟨3, none, 0, [], (erB_big HBG.out).symm, by rw [if_neg (by decide)], rfl, owe_nil _ _, below_then HB0.out h1⟩
    · have hb1 : ¬ (M : Int) < (b.length : Int) := by omega
      have HBG : Hid (¬ M < b.length) := hbig
      clear hbig
      go_enter Try.func12, Try.ntmps12
      go_wp2_with fail
      rw [← hw0]
      clear hw0
      refine (HC _).mono ?_
      rintro _ w1 ⟨rfl, h1⟩
      have HB1 : Hid (RowKit.Below w0.heap.size w0 w1) := h1
      have hEN := HEN.out w1 h1
      clear h1 HC x0 x1 x2 x3
      go_wp2_with fail
      refine hEN.mono ?_
      rintro _ w2 ⟨bo, cb, L, ro, rc, hL, rfl, hown, h2⟩
      subst hL
      have HB2 : Hid (RowKit.Below w0.heap.size w0 w2) := below_then HB1.out h2
      have HO2 : Hid (OwE w1.heap.size w2 bo L cb) := hown
      have HS1 : Hid (w.heap.size ≤ w1.heap.size) := (below_then HB0.out HB1.out).size
      have hM := HM.out w2 bo cb hown.ren
      clear h2 hown hEN
      obtain ⟨x0, x1, x2, x3⟩ := HPAR.out w2 HB2.out
      by_cases hr : rest = []
      · have hr0 : rest.length = 0 := by rw [hr]; rfl
        have hr1 : ¬ (0 : Int) < (rest.length : Int) := by omega
        have HR : Hid (rest = []) := hr
        rw [hr0]
        clear hr hr0
        cases hm : mayE q L
        · rw [hm] at hM
          have HMM : Hid (mayE q L = false) := hm
          clear hm
          go_wp2_with fail
          refine hM.mono ?_
          rintro _ w3 ⟨rfl, h3⟩
          go_wp2
          go_ret2
          exact ⟨220, none, 0, [], (erB_bad HBG.out HMM.out).symm, by rw [if_neg (by decide)], rfl, owe_nil _ _, below_then HB0.out (below_then HB2.out h3)⟩
        · rw [hm] at hM
          have HMM : Hid (mayE q L = true) := hm
          clear hm
          go_wp2_with fail
          refine hM.mono ?_
          rintro _ w3 ⟨rfl, h3⟩
          go_wp2
          go_ret2
          exact ⟨0, bo, cb, L, (erB_good HBG.out HR.out HMM.out).symm, by rw [if_pos rfl], rfl, (HO2.out.below h3).mono HS1.out, below_then HB0.out (below_then HB2.out h3)⟩
      · have hr0 : 0 < rest.length := List.length_pos_iff.2 hr
        have hr1 : (0 : Int) < (rest.length : Int) := by omega
        have HR : Hid (rest ≠ []) := hr
        clear hr
        go_wp2
        go_ret2
        exact ⟨220, none, 0, [], (erB_cut HBG.out HR.out).symm, by rw [if_neg (by decide)], rfl, owe_nil _ _, below_then HB0.out HB2.out⟩
  · have hz : (e != 0) = true := by simpa using he
    have HE : Hid (e ≠ 0) := he
    clear he
    go_enter Try.func12, Try.ntmps12
    go_wp2_with fail
    rw [← hw0]
    clear hw0
    refine (HC _).mono ?_
    rintro _ w1 ⟨rfl, h1⟩
    go_wp2
    go_ret2
    exact ⟨e, none, 0, [], (erB_no HE.out).symm, by rw [if_neg HE.out], rfl, owe_nil _ _, below_then HB0.out h1⟩
end Go.Proofs.Ytfbfiecamaginaa
