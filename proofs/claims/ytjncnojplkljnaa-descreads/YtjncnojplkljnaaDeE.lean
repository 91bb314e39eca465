/- A leaf's bytes, by the document. -/
import Derived.Test.YtjncnojplkljnaaDeD
namespace Go.Proofs.Ytjncnojplkljnaa
open Go.RowKit

theorem lf_wide (n : Nat) (R V : Nat → Int) (j : Nat) : upR (fun _ => 0) 0 (6 * n) (rfB R V) j = lfB n R V j := by
  unfold lfB
  by_cases h : j < 6 * n
  · rw [if_pos h, upR_in (by omega), Nat.sub_zero]
  · rw [if_neg h, upR_out (by omega)]
set_option maxHeartbeats 4000000 in
set_option maxRecDepth 100000 in
theorem RLeaf_any {k r c q : Int} {N W : Nat} {y : Int} (h : Par k r c q N W y) (w : World) (ro : Option Addr) (n rc : Nat) (R V : Nat → Int) (hR : Rec w ro n rc R V) (E : Int) (hE : erL y W q n R V = E) :
    Calls Try.prog 18 #[.agg #[.int .i64 k, .int .i64 r, .int .i64 c, .int .i64 q], .slice ro n rc] w (AnsB w E W (lfB n R V)) := by
  have HM := fun v => May_any k r c q v
  rw [h.may] at HM
  have HR : Hid (Rec w ro n rc R V) := hR
  have hW2 := h.wide
  unfold AnsB
  unfold erL at hE
  clear hR
  obtain ⟨w0, hw0⟩ : ∃ w0, w0 = w.alloc (.cells #[.int .i64 k, .int .i64 r, .int .i64 c, .int .i64 q] 24) := ⟨_, rfl⟩
  have b0 : Below w.heap.size w w0 := by rw [hw0]; exact below_alloc _ _
  have HBB : Hid (Below w.heap.size w w0) := b0
  have HP : Hid (∀ u, Below w0.heap.size w0 u → u.cell? ⟨w.heap.size, 0, none⟩ = some (.int .i64 k) ∧ u.cell? ⟨w.heap.size, 1, none⟩ = some (.int .i64 r) ∧ u.cell? ⟨w.heap.size, 2, none⟩ = some (.int .i64 c) ∧ u.cell? ⟨w.heap.size, 3, none⟩ = some (.int .i64 q)) := fun u hu => par_held hw0 hu
  rcases h.err with rfl | rfl
  · rw [if_pos rfl] at hE
    rw [decide_eq_true rfl] at HM
    obtain ⟨hmy, hW, _, hq⟩ := h.fine
    obtain ⟨f1, f2, f3, _, _⟩ := h.good hmy
    have HL := fun v => L_good k r c q v W f1 f2 f3
    have hll := lea_le hW2
    have hlr := lea_room W
    by_cases h1 : n < 1
    · rw [if_pos (.inl h1)] at hE
      subst hE
      rw [lenE_not (by decide)]
      obtain rfl : n = 0 := by omega
      clear h hmy f1 f2 f3 hq
      go_enter Try.func18, Try.ntmps18
      go_wp2_with fail
      rw [← hw0]
      clear hw0 b0
      refine (HM _).mono ?_
      rintro e wa ⟨rfl, ha⟩
      obtain ⟨p0, p1, p2, p3⟩ := HP.out _ ha
      go_wp2_with fail
      go_ret2
      exact ⟨none, 0, rfl, owu_nil _ _ _, below_then HBB.out ha⟩
    · by_cases h2 : lea W < n
      · rw [if_pos (.inr h2)] at hE
        subst hE
        rw [lenE_not (by decide)]
        generalize lea W = ll at *
        have e1 : decide ((n : Int) < 1) = false := decide_eq_false (by omega)
        have e2 : decide ((ll : Int) < (n : Int)) = true := decide_eq_true (by omega)
        clear h hmy f1 f2 f3 hq
        go_enter Try.func18, Try.ntmps18
        go_wp2_with fail
        rw [← hw0]
        clear hw0 b0
        refine (HM _).mono ?_
        rintro e wa ⟨rfl, ha⟩
        obtain ⟨p0, p1, p2, p3⟩ := HP.out _ ha
        go_wp2_with fail
        refine (HL _).mono ?_
        rintro e wb ⟨rfl, hb⟩
        have k2 : Hid (Below w0.heap.size w0 wb) := below_then ha hb
        clear p0 p1 p2 p3 ha hb
        obtain ⟨p0, p1, p2, p3⟩ := HP.out _ k2.out
        go_wp2_with fail
        go_ret2
        exact ⟨none, 0, rfl, owu_nil _ _ _, below_then HBB.out k2.out⟩
      · rw [if_neg (by omega)] at hE
        have HF := fun v hv => refs_any k r c q v ro n rc R V hv (by omega)
        have e1 : decide ((n : Int) < 1) = false := decide_eq_false (by omega)
        have e2 : decide ((lea W : Int) < (n : Int)) = false := decide_eq_false (by omega)
        obtain ⟨ok, hok⟩ : ∃ ok, ok = okL q n R V := ⟨_, rfl⟩
        rw [← hok] at hE HF
        cases ok
        · rw [if_neg (by decide)] at hE
          subst hE
          rw [lenE_not (by decide)]
          generalize lea W = ll at *
          clear h hmy f1 f2 f3 hq hok
          go_enter Try.func18, Try.ntmps18
          go_wp2_with fail
          rw [← hw0]
          clear hw0 b0
          refine (HM _).mono ?_
          rintro e wa ⟨rfl, ha⟩
          obtain ⟨p0, p1, p2, p3⟩ := HP.out _ ha
          go_wp2_with fail
          refine (HL _).mono ?_
          rintro e wb ⟨rfl, hb⟩
          have k2 : Hid (Below w0.heap.size w0 wb) := below_then ha hb
          clear p0 p1 p2 p3 ha hb
          obtain ⟨p0, p1, p2, p3⟩ := HP.out _ k2.out
          go_wp2_with fail
          refine (HF _ (HR.out.rd.below (below_then HBB.out k2.out))).mono ?_
          rintro e wc ⟨rfl, hc⟩
          have k3 : Hid (Below w0.heap.size w0 wc) := below_then k2.out hc
          clear p0 p1 p2 p3 hc
          obtain ⟨p0, p1, p2, p3⟩ := HP.out _ k3.out
          go_wp2_with fail
          go_ret2
          exact ⟨none, 0, rfl, owu_nil _ _ _, below_then HBB.out k3.out⟩
        · rw [if_pos rfl] at hE
          subst hE
          rw [lenE_zero]
          have CT := fun v hv => told_any v ro n rc R V hv (by omega) (okL_nums hq hok.symm)
          have CW := fun v bo bc H hv => wide_any (r := r) (q := q) f1 hW2 v bo (6 * n) bc H hv (by omega) (by omega)
          have HLW : Hid (∀ j, upR (fun _ => 0) 0 (6 * n) (rfB R V) j = lfB n R V j) := lf_wide n R V
          generalize lea W = ll at *
          generalize lfB n R V = G at *
          clear h hmy f1 f2 f3 hq hok
          go_enter Try.func18, Try.ntmps18
          go_wp2_with fail
          rw [← hw0]
          clear hw0 b0
          refine (HM _).mono ?_
          rintro e wa ⟨rfl, ha⟩
          obtain ⟨p0, p1, p2, p3⟩ := HP.out _ ha
          go_wp2_with fail
          refine (HL _).mono ?_
          rintro e wb ⟨rfl, hb⟩
          have k2 : Hid (Below w0.heap.size w0 wb) := below_then ha hb
          clear p0 p1 p2 p3 ha hb
          obtain ⟨p0, p1, p2, p3⟩ := HP.out _ k2.out
          go_wp2_with fail
          refine (HF _ (HR.out.rd.below (below_then HBB.out k2.out))).mono ?_
          rintro e wc ⟨rfl, hc⟩
          have k3 : Hid (Below w0.heap.size w0 wc) := below_then k2.out hc
          clear p0 p1 p2 p3 hc
          obtain ⟨p0, p1, p2, p3⟩ := HP.out _ k3.out
          go_wp2_with fail
          have HT : Hid (∀ v, Below wc.drew.heap.size wc.drew v → Below w0.heap.size w0 v) := fun v hv => below_then k3.out (of_drew hv)
          go_region_held3 (fun v => v.cell? ⟨w.heap.size, 0, none⟩ = some (.int .i64 k) ∧ v.cell? ⟨w.heap.size, 1, none⟩ = some (.int .i64 r) ∧ v.cell? ⟨w.heap.size, 2, none⟩ = some (.int .i64 c) ∧ v.cell? ⟨w.heap.size, 3, none⟩ = some (.int .i64 q)) (go_keep)
            ((first
              | (go_at_call 44; refine (CT _ (HR.out.rd.below (below_then HBB.out (HT.out _ (Below.refl _ _))))).mono ?_; rintro e wd ⟨uo, uc, rfl, hu, hd⟩; have hd2 := HT.out _ hd; obtain ⟨s0, s1, s2, s3⟩ := HP.out _ hd2)
              | (go_at_call 43; refine (CW _ _ _ _ hu.bec).mono ?_; rintro e we ⟨g, rfl, hg, hgl, he⟩; obtain ⟨t0, t1, t2, t3⟩ := HP.out _ (below_then hd2 he))))
          all_goals (
            go_wp2_with fail
            go_ret2
            exact ⟨some ⟨g, 0, none⟩, W, rfl, (hg.congr fun j _ => HLW.out j).own (Nat.le_trans (below_then HBB.out hd2).size hgl) (by omega), below_then (below_then HBB.out hd2) he⟩)
  · rw [if_neg (by decide)] at hE
    subst hE
    rw [lenE_not (by decide)]
    rw [decide_eq_false (by decide)] at HM
    clear h
    go_enter Try.func18, Try.ntmps18
    go_wp2_with fail
    rw [← hw0]
    clear hw0 b0
    refine (HM _).mono ?_
    rintro e wa ⟨rfl, ha⟩
    obtain ⟨p0, p1, p2, p3⟩ := HP.out _ ha
    go_wp2_with fail
    go_ret2
    exact ⟨none, 0, rfl, owu_nil _ _ _, below_then HBB.out ha⟩
end Go.Proofs.Ytjncnojplkljnaa
