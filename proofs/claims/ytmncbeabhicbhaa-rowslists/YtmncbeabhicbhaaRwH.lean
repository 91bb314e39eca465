/- Which rows there are in a list, as the document marks them. -/
import Derived.Test.YtmncbeabhicbhaaRwF
import Derived.BigQuiet
namespace Go.Proofs.Ytmncbeabhicbhaa
open Go.RowKit

def erMk (b : Bool) (q : Int) (n : Nat) (R : Nat → Int) : Int := if b = true then erL q n R else erH q n R
def okM (b : Bool) (q : Int) (R : Nat → Int) (i : Nat) : Prop := (0 ≤ R i ∧ R i < q) ∧ (b = true → 0 < i → R (i - 1) < R i)
theorem erMk_cases (b : Bool) (q : Int) (n : Nat) (R : Nat → Int) : (65536 < n ∧ erMk b q n R = 20) ∨ (n ≤ 65536 ∧ (∀ i, i < n → okM b q R i) ∧ erMk b q n R = 0) ∨ (n ≤ 65536 ∧ ¬ (∀ i, i < n → okM b q R i) ∧ erMk b q n R = 200) := by
  unfold erMk
  rcases erH_cases q n R with ⟨g1, g2⟩ | ⟨g1, g3, g2⟩ | ⟨g1, g3, g2⟩
  · refine .inl ⟨g1, ?_⟩
    unfold erL
    rw [g2]
    cases b <;> rfl
  · by_cases h : ∀ i, i < n → okM b q R i
    · refine .inr (.inl ⟨g1, h, ?_⟩)
      rw [g2]
      split
      · rename_i hb
        unfold erL
        rw [g2, if_pos rfl, rsB_t (fun i hi => by have := (h (i + 1) hi).2 hb (by omega); simpa using this), if_pos rfl]
      · rfl
    · refine .inr (.inr ⟨g1, h, ?_⟩)
      cases b
      · exact absurd (fun i hi => ⟨g3 i hi, fun e => by cases e⟩) h
      · rw [if_pos rfl]
        unfold erL
        rw [g2, if_pos rfl, rsB_f (fun h2 => h fun i hi => ⟨g3 i hi, fun _ h0 => by have := h2 (i - 1) (by omega); rwa [show i - 1 + 1 = i by omega] at this⟩), if_neg (by decide)]
  · refine .inr (.inr ⟨g1, fun h => g3 fun i hi => (h i hi).1, ?_⟩)
    unfold erL
    rw [g2]
    cases b <;> rfl
theorem inB_zero (R : Nat → Int) (i : Nat) : inB 0 R i = false := inB_no.2 fun j hj => absurd hj (Nat.not_lt_zero j)
theorem inB_succ {n : Nat} {R : Nat → Int} {x i : Nat} (h : R n = (x : Int)) : inB (n + 1) R i = if i = x then true else inB n R i := by
  by_cases e : i = x
  · rw [if_pos e]; exact inB_iff.2 ⟨n, by omega, by rw [h, e]⟩
  · rw [if_neg e]
    cases g : inB n R i
    · refine inB_no.2 fun j hj => ?_
      by_cases f : j = n
      · subst f; rw [h]; omega
      · exact inB_no.1 g j (by omega)
    · obtain ⟨j, hj, f⟩ := inB_iff.1 g
      exact inB_iff.2 ⟨j, by omega, f⟩
/-- A row of marks. -/
def Mrk (w : World) (g Q : Nat) (P : Nat → Bool) : Prop := w.rowIs g 4 Q (fun i => .bool (P i))
set_option maxHeartbeats 4000000 in
set_option maxRecDepth 100000 in
theorem marked_any (k r c : Int) (Q : Nat) (hQ : Q ≤ 256) (w : World) (ao : Option Addr) (n ca : Nat) (R : Nat → Int) (hr : RdI w ao n R) (hn : n ≤ 200000) (b : Bool) (E : Int) (hE : erMk b (Q : Int) n R = E) :
    Calls Try.prog 29 #[.agg #[.int .i64 k, .int .i64 r, .int .i64 c, .int .i64 (Q : Int)], .slice ao n ca, .bool b] w fun e w' => ((E ≠ 0 ∧ e = .returned (.tuple #[.slice none 0 0, .int .i64 E])) ∨ (E = 0 ∧ ∃ g, e = .returned (.tuple #[.slice (some ⟨g, 0, none⟩) Q Q, .int .i64 0]) ∧ w.heap.size ≤ g ∧ Mrk w' g Q (inB n R))) ∧ Below w.heap.size w w' := by
  obtain ⟨w0, hw0⟩ : ∃ w0, w0 = w.alloc (.cells #[.int .i64 k, .int .i64 r, .int .i64 c, .int .i64 (Q : Int)] 24) := ⟨_, rfl⟩
  have b0 : Below w.heap.size w w0 := by rw [hw0]; exact below_alloc _ _
  have HPAR : Hid (∀ v, Below w0.heap.size w0 v → v.cell? ⟨w.heap.size, 0, none⟩ = some (.int .i64 k) ∧ v.cell? ⟨w.heap.size, 1, none⟩ = some (.int .i64 r) ∧ v.cell? ⟨w.heap.size, 2, none⟩ = some (.int .i64 c) ∧ v.cell? ⟨w.heap.size, 3, none⟩ = some (.int .i64 (Q : Int))) := fun v hv => par_held hw0 hv
  have HB0 : Hid (Below w.heap.size w w0) := b0
  have HV : Hid (RdI w ao n R) := hr
  clear hr b0
  rcases erMk_cases b (Q : Int) n R with ⟨h1, h2⟩ | ⟨h1, h3, h2⟩ | ⟨h1, h3, h2⟩
  · obtain rfl : E = 20 := hE.symm.trans h2
    have h4 : (65536 : Int) < (n : Int) := by omega
    clear h2 hE
    obtain ⟨x0, x1, x2, x3⟩ := HPAR.out w0 (Below.refl _ _)
    go_enter Try.func29, Try.ntmps29
    go_wp2_with fail
    rw [← hw0]
    go_ret2
    exact ⟨.inl ⟨by decide, rfl⟩, HB0.out⟩
  all_goals
    have h4 : ¬ (65536 : Int) < (n : Int) := by omega
    have hmk := run_make_row' (P := Try.prog) 51 4 (.bool false) 1 Try.underlying51 info4 rfl .i64 .i64 Q (by omega) (by omega) w0
    obtain ⟨wz, hwz⟩ : ∃ wz, wz = w0.alloc (.cells (madeCells #[.bool false] Q) 4) := ⟨_, rfl⟩
    have HBZ : Hid (Below w0.heap.size w0 wz) := by rw [hwz]; exact below_alloc _ _
    have HR0 : Hid (Mrk wz w0.heap.size Q (inB 0 R)) := by
      rw [hwz]
      exact (World.rowIs_made w0 (.bool false) Q 4).congr fun i _ => by rw [inB_zero]
    rw [← hwz] at hmk
    have hg0 : w0.heap.size = w.heap.size + 1 := by rw [hw0]; simp
    rw [hg0] at hmk HR0
    rw [hw0] at hmk
    have HG0 : Hid (w0.heap.size = w.heap.size + 1) := hg0
    clear hwz hg0
    obtain ⟨x0, x1, x2, x3⟩ := HPAR.out w0 (Below.refl _ _)
  · obtain rfl : E = 0 := hE.symm.trans h2
    have HA : Hid (∀ i, i < n → okM b (Q : Int) R i) := h3
    clear h2 hE h3
    go_enter Try.func29, Try.ntmps29
    go_wp2_with fail
    clear hw0 x0 x1 x2 x3 hmk
    go_loopw [9] (fun x wr => ∃ i : Nat, i ≤ n ∧ x = .int .i64 (i : Int) ∧ Hid (Mrk wr (w.heap.size + 1) Q (inB i R)) ∧ Hid (Below w0.heap.size w0 wr)) (fun x _ => n - (intOf x).toNat)
    case atStart => exact ⟨0, Nat.zero_le _, rfl, HR0, HBZ⟩
    case round =>
      obtain ⟨i, hi, rfl, hm, hbel⟩ := hrel
      by_cases hlt : i < n
      · skip
        obtain ⟨b', off, rfl, hc⟩ := (HV.out.below (below_then HB0.out hbel.out)) (by omega)
        obtain ⟨x0, x1, x2, x3⟩ := HPAR.out wr hbel.out
        have hok := HA.out i hlt
        obtain ⟨X, hX⟩ : ∃ X : Nat, R i = (X : Int) := ⟨(R i).toNat, by have := hok.1; omega⟩
        have hXQ : X < Q := by have := hok.1; omega
        have hcell := hm.out.cell hXQ
        have hfr := hm.out.frozen X
        have HM2 : Hid (∀ q, Mrk ((wr.drewN q).setCell ⟨w.heap.size + 1, X, none⟩ (.bool true)) (w.heap.size + 1) Q (inB (i + 1) R)) := fun q => by
          refine (World.rowIs.set (show (wr.drewN q).rowIs (w.heap.size + 1) 4 Q _ from hm.out) X (.bool true)).congr fun y _ => ?_
          rw [inB_succ hX]
          by_cases e : y = X
          · rw [if_pos e, if_pos e]
          · rw [if_neg e, if_neg e]
        have HK2 : Hid (∀ q, Below w0.heap.size w0 ((wr.drewN q).setCell ⟨w.heap.size + 1, X, none⟩ (.bool true))) := fun q => (below_then hbel.out (below_drewN _ wr q)).setCell (by show w0.heap.size ≤ w.heap.size + 1; rw [HG0.out]; exact Nat.le_refl _) _
        have i1 : (0 : Int) ≤ (i : Int) := by omega
        have i2 : (i : Int) < (n : Int) := by omega
        have i3 : (0 : Int) ≤ (X : Int) := by omega
        have i4 : (X : Int) < (Q : Int) := by omega
        have ck := hc i hlt
        rw [hX] at ck
        cases b
        · clear hc hok hm hbel
          go_wp2_with fail
          have a1 : decide ((X : Int) < 0) = false := decide_eq_false (by omega)
          have a2 : decide ((Q : Int) ≤ (X : Int)) = false := decide_eq_false (by omega)
          have a3 : decide (Q ≤ X) = false := decide_eq_false (by omega)
          go_big_quiet (fail)
          go_wp2_with fail
          go_roundw
          case rel => exact ⟨i + 1, by omega, by go_num, HM2.out _, HK2.out _⟩
          case measure => simp [intOf]; omega
        · by_cases hi0 : i = 0
          · have HI0 : Hid (i = 0) := hi0
            clear hc hok hm hbel hi0
            go_wp2_with fail
            have a1 : decide ((X : Int) < 0) = false := decide_eq_false (by omega)
            have a2 : decide ((Q : Int) ≤ (X : Int)) = false := decide_eq_false (by omega)
            have a3 : decide (Q ≤ X) = false := decide_eq_false (by omega)
            have a5 : decide ((0 : Int) < (i : Int)) = false := decide_eq_false (by have := HI0.out; omega)
            have a6 : decide (0 < i) = false := decide_eq_false (by have := HI0.out; omega)
            go_big_quiet (fail)
            go_wp2_with fail
            go_roundw
            case rel => exact ⟨i + 1, by omega, by go_num, HM2.out _, HK2.out _⟩
            case measure => simp [intOf]; omega
          · obtain ⟨j, rfl⟩ : ∃ j, i = j + 1 := ⟨i - 1, by omega⟩
            have cj := hc j (by omega)
            have hris := hok.2 rfl (by omega)
            simp only [Nat.add_sub_cancel] at hris
            rw [hX] at hris
            have HRI : Hid (R j < (X : Int)) := hris
            have i5 : (((j + 1 : Nat) : Int) - 1) = (j : Int) := by omega
            clear hc hok hm hbel hris hi0
            go_wp2_with fail
            have a1 : decide ((X : Int) < 0) = false := decide_eq_false (by omega)
            have a2 : decide ((Q : Int) ≤ (X : Int)) = false := decide_eq_false (by omega)
            have a3 : decide (Q ≤ X) = false := decide_eq_false (by omega)
            have a4 : decide ((X : Int) ≤ R j) = false := decide_eq_false (by have := HRI.out; omega)
            have a5 : decide ((0 : Int) < ((j + 1 : Nat) : Int)) = true := decide_eq_true (by omega)
            have a6 : decide (0 < j + 1) = true := decide_eq_true (by omega)
            go_big_quiet (fail)
            go_wp2_with fail
            go_roundw
            case rel => exact ⟨(j + 1) + 1, by omega, by go_num, HM2.out _, HK2.out _⟩
            case measure => simp [intOf]; omega
      · obtain rfl : i = n := by omega
        have HM3 : Hid (Mrk wr (w.heap.size + 1) Q (inB i R)) := hm
        have HB3 : Hid (Below w0.heap.size w0 wr) := hbel
        clear hm hbel
        go_wp2_with fail
        go_ret2
        exact ⟨.inr ⟨trivial, _, rfl, Nat.le_succ _, HM3.out⟩, below_then HB0.out HB3.out⟩
  · obtain rfl : E = 200 := hE.symm.trans h2
    obtain ⟨p, hp, hne, heq⟩ := first_not h3
    have HA : Hid (∀ i, i < p → okM b (Q : Int) R i) := heq
    have HN : Hid (¬ okM b (Q : Int) R p) := hne
    clear h2 hE h3 heq hne
    go_enter Try.func29, Try.ntmps29
    go_wp2_with fail
    clear hw0 x0 x1 x2 x3 hmk
    go_loopw [9] (fun x wr => ∃ i : Nat, i ≤ p ∧ x = .int .i64 (i : Int) ∧ Hid (Mrk wr (w.heap.size + 1) Q (inB i R)) ∧ Hid (Below w0.heap.size w0 wr)) (fun x _ => n - (intOf x).toNat)
    case atStart => exact ⟨0, Nat.zero_le _, rfl, HR0, HBZ⟩
    case round =>
      obtain ⟨i, hi, rfl, hm, hbel⟩ := hrel
      have hlt : i < n := by omega
      by_cases hiq : i < p
      · skip
        obtain ⟨b', off, rfl, hc⟩ := (HV.out.below (below_then HB0.out hbel.out)) (by omega)
        obtain ⟨x0, x1, x2, x3⟩ := HPAR.out wr hbel.out
        have hok := HA.out i hiq
        obtain ⟨X, hX⟩ : ∃ X : Nat, R i = (X : Int) := ⟨(R i).toNat, by have := hok.1; omega⟩
        have hXQ : X < Q := by have := hok.1; omega
        have hcell := hm.out.cell hXQ
        have hfr := hm.out.frozen X
        have HM2 : Hid (∀ q, Mrk ((wr.drewN q).setCell ⟨w.heap.size + 1, X, none⟩ (.bool true)) (w.heap.size + 1) Q (inB (i + 1) R)) := fun q => by
          refine (World.rowIs.set (show (wr.drewN q).rowIs (w.heap.size + 1) 4 Q _ from hm.out) X (.bool true)).congr fun y _ => ?_
          rw [inB_succ hX]
          by_cases e : y = X
          · rw [if_pos e, if_pos e]
          · rw [if_neg e, if_neg e]
        have HK2 : Hid (∀ q, Below w0.heap.size w0 ((wr.drewN q).setCell ⟨w.heap.size + 1, X, none⟩ (.bool true))) := fun q => (below_then hbel.out (below_drewN _ wr q)).setCell (by show w0.heap.size ≤ w.heap.size + 1; rw [HG0.out]; exact Nat.le_refl _) _
        have i1 : (0 : Int) ≤ (i : Int) := by omega
        have i2 : (i : Int) < (n : Int) := by omega
        have i3 : (0 : Int) ≤ (X : Int) := by omega
        have i4 : (X : Int) < (Q : Int) := by omega
        have ck := hc i hlt
        rw [hX] at ck
        cases b
        · clear hc hok hm hbel
          go_wp2_with fail
          have a1 : decide ((X : Int) < 0) = false := decide_eq_false (by omega)
          have a2 : decide ((Q : Int) ≤ (X : Int)) = false := decide_eq_false (by omega)
          have a3 : decide (Q ≤ X) = false := decide_eq_false (by omega)
          go_big_quiet (fail)
          go_wp2_with fail
          go_roundw
          case rel => exact ⟨i + 1, by omega, by go_num, HM2.out _, HK2.out _⟩
          case measure => simp [intOf]; omega
        · by_cases hi0 : i = 0
          · have HI0 : Hid (i = 0) := hi0
            clear hc hok hm hbel hi0
            go_wp2_with fail
            have a1 : decide ((X : Int) < 0) = false := decide_eq_false (by omega)
            have a2 : decide ((Q : Int) ≤ (X : Int)) = false := decide_eq_false (by omega)
            have a3 : decide (Q ≤ X) = false := decide_eq_false (by omega)
            have a5 : decide ((0 : Int) < (i : Int)) = false := decide_eq_false (by have := HI0.out; omega)
            have a6 : decide (0 < i) = false := decide_eq_false (by have := HI0.out; omega)
            go_big_quiet (fail)
            go_wp2_with fail
            go_roundw
            case rel => exact ⟨i + 1, by omega, by go_num, HM2.out _, HK2.out _⟩
            case measure => simp [intOf]; omega
          · obtain ⟨j, rfl⟩ : ∃ j, i = j + 1 := ⟨i - 1, by omega⟩
            have cj := hc j (by omega)
            have hris := hok.2 rfl (by omega)
            simp only [Nat.add_sub_cancel] at hris
            rw [hX] at hris
            have HRI : Hid (R j < (X : Int)) := hris
            have i5 : (((j + 1 : Nat) : Int) - 1) = (j : Int) := by omega
            clear hc hok hm hbel hris hi0
            go_wp2_with fail
            have a1 : decide ((X : Int) < 0) = false := decide_eq_false (by omega)
            have a2 : decide ((Q : Int) ≤ (X : Int)) = false := decide_eq_false (by omega)
            have a3 : decide (Q ≤ X) = false := decide_eq_false (by omega)
            have a4 : decide ((X : Int) ≤ R j) = false := decide_eq_false (by have := HRI.out; omega)
            have a5 : decide ((0 : Int) < ((j + 1 : Nat) : Int)) = true := decide_eq_true (by omega)
            have a6 : decide (0 < j + 1) = true := decide_eq_true (by omega)
            go_big_quiet (fail)
            go_wp2_with fail
            go_roundw
            case rel => exact ⟨(j + 1) + 1, by omega, by go_num, HM2.out _, HK2.out _⟩
            case measure => simp [intOf]; omega
      · obtain rfl : i = p := by omega
        obtain ⟨b', off, rfl, hc⟩ := (HV.out.below (below_then HB0.out hbel.out)) (by omega)
        obtain ⟨x0, x1, x2, x3⟩ := HPAR.out wr hbel.out
        have HB3 : Hid (∀ q, Below w.heap.size w (wr.drewN q)) := fun q => below_then HB0.out (below_then hbel.out (below_drewN _ wr q))
        have i1 : (0 : Int) ≤ (i : Int) := by omega
        have i2 : (i : Int) < (n : Int) := by omega
        have ck := hc i hlt
        by_cases b1 : R i < 0
        · clear hc hm hbel
          go_wp2_with fail
          have a1 : decide (R i < 0) = true := decide_eq_true b1
          go_big_quiet (fail)
          go_wp2_with fail
          go_ret2
          exact ⟨.inl ⟨by decide, rfl⟩, HB3.out _⟩
        · obtain ⟨X, hX⟩ : ∃ X : Nat, R i = (X : Int) := ⟨(R i).toNat, by omega⟩
          rw [hX] at ck
          by_cases b2 : Q ≤ X
          · clear hc hm hbel
            go_wp2_with fail
            have a1 : decide ((X : Int) < 0) = false := decide_eq_false (by omega)
            have a2 : decide ((Q : Int) ≤ (X : Int)) = true := decide_eq_true (by omega)
            have a3 : decide (Q ≤ X) = true := decide_eq_true (by omega)
            go_big_quiet (fail)
            go_wp2_with fail
            go_ret2
            exact ⟨.inl ⟨by decide, rfl⟩, HB3.out _⟩
          · have h5 : b = true ∧ 0 < i ∧ R i ≤ R (i - 1) := by
              have h6 := HN.out
              refine ⟨?_, ?_, ?_⟩
              · cases b
                · exact absurd ⟨by omega, fun e => by cases e⟩ h6
                · rfl
              · rcases Nat.eq_zero_or_pos i with e | e
                · exact absurd ⟨by omega, fun _ h => by omega⟩ h6
                · exact e
              · rcases Int.lt_or_le (R (i - 1)) (R i) with e | e
                · exact absurd ⟨by omega, fun _ _ => e⟩ h6
                · exact e
            obtain ⟨rfl, h7, h8⟩ := h5
            obtain ⟨j, rfl⟩ : ∃ j, i = j + 1 := ⟨i - 1, by omega⟩
            have cj := hc j (by omega)
            simp only [Nat.add_sub_cancel] at h8
            rw [hX] at h8
            have i5 : (((j + 1 : Nat) : Int) - 1) = (j : Int) := by omega
            have HRI : Hid ((X : Int) ≤ R j) := h8
            clear hc hm hbel h7 h8
            go_wp2_with fail
            have a1 : decide ((X : Int) < 0) = false := decide_eq_false (by omega)
            have a2 : decide ((Q : Int) ≤ (X : Int)) = false := decide_eq_false (by omega)
            have a3 : decide (Q ≤ X) = false := decide_eq_false (by omega)
            have a4 : decide ((X : Int) ≤ R j) = true := decide_eq_true HRI.out
            have a5 : decide ((0 : Int) < ((j + 1 : Nat) : Int)) = true := decide_eq_true (by omega)
            have a6 : decide (0 < j + 1) = true := decide_eq_true (by omega)
            go_big_quiet (fail)
            go_wp2_with fail
            go_ret2
            exact ⟨.inl ⟨by decide, rfl⟩, HB3.out _⟩
end Go.Proofs.Ytmncbeabhicbhaa
