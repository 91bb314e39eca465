/- What the document's own All and Parity answer, whatever is handed in: the walk. -/
import Derived.Test.YtgflgmkaaidfnaaDelM
import Derived.Deep.RegionWith
namespace Go.Proofs.Ytgflgmkaaidfnaa
open Go.RowKit

theorem frozen_below {w w' : World} {a : Addr} {v : Value} (h : w.cell? a = some v) (hz : w.frozen? a = false) (hb : Below w.heap.size w w') : w'.frozen? a = false := by
  have := hb.block a.block (World.block_lt_of_cell? w a h)
  unfold World.frozen? at hz ⊢
  rw [this]; exact hz
set_option maxHeartbeats 8000000 in
set_option maxRecDepth 100000 in
theorem rall_main (w : World) (k pl n dl pc cc dc : Nat) (po co qo : Option Addr) (PA : Nat → Option Addr) (PC PL : Nat → Nat) (P : M) (R : Nat → Int) (DA : Nat → Option Addr) (DC DL : Nat → Nat) (D : M)
    (hk1 : 1 ≤ k) (hk : k ≤ 12) (hr : pl ≤ 4) (hp : Lst w po pl PA PC PL P) (hcr : RdI w co n R) (hq : Lst w qo dl DA DC DL D) (ha : alikeB pl PL = true) :
    Calls Try.prog 19 #[.int .i64 (k : Int), .int .i64 (pl : Int), .slice po pl pc, .slice co n cc, .slice qo dl dc] w (Made w (okAll k pl pl PL n R dl DL) (errAll k pl pl PL n R) pl (PL 0) (upd k n R D P)) := by
  have hmay : mayB (k : Int) (pl : Int) = true := decide_eq_true (by omega)
  have hpar : parB (pl : Int) pl PL = true := by unfold parB; rw [ha, decide_eq_true rfl]; rfl
  have hASK := asked_any w (k : Int) (pl : Int) po pl pc PA PC PL P hp
  rw [show askE (k : Int) (pl : Int) pl PL = 0 by unfold askE; rw [hmay, hpar]; rfl] at hASK
  have HNO : Hid (onceB (k : Int) n R = false → okAll k pl pl PL n R dl DL = false ∧ errAll k pl pl PL n R = 2) := fun h => ⟨by unfold okAll; rw [h, Bool.false_and, Bool.and_false, Bool.and_false], by unfold errAll; rw [hmay, hpar, h]; rfl⟩
  have HYE : Hid (onceB (k : Int) n R = true → errAll k pl pl PL n R = 40 ∧ okAll k pl pl PL n R dl DL = fitB pl PL n dl DL) := fun h => ⟨by unfold errAll; rw [hmay, hpar, h]; rfl, by unfold okAll; rw [hmay, hpar, h]; rfl⟩
  have HP : Hid (Lst w po pl PA PC PL P) := hp
  have HC : Hid (RdI w co n R) := hcr
  have HQ : Hid (Lst w qo dl DA DC DL D) := hq
  have HA : Hid (alikeB pl PL = true) := ha
  clear hp hcr hq hmay hpar ha
  go_enter Try.func19, Try.ntmps19
  go_wp2_with fail
  refine hASK.mono ?_
  rintro e w1 ⟨rfl, b1⟩
  have B1 : Hid (Below w.heap.size w w1) := b1
  clear hASK b1
  by_cases hnk : (n : Int) ≤ (k : Int)
  rotate_left
  · have HF := HNO.out (decide_eq_false fun h => hnk h.1)
    have HFF : Hid (okAll k pl pl PL n R dl DL = false ∧ errAll k pl pl PL n R = 2) := HF
    clear HF
    go_wp2_with fail
    go_ret2
    rw [HFF.out.1, HFF.out.2]
    exact all_no B1.out
  have hdk : decide (k < n) = false := by simp; omega
  have hdk2 : decide ((k : Int) < (n : Int)) = false := by simp; omega
  go_wp2_with fail
  go_loopw [13] (fun x wr => ∃ i : Nat, i ≤ n ∧ x = .int .i64 i ∧ Hid (∀ j, j < i → (0 ≤ R j ∧ R j < (k : Int)) ∧ ∀ j', j' < j → R j' ≠ R j) ∧ Hid (Below w.heap.size w wr)) (fun x _ => n - (intOf x).toNat)
  case atStart => exact ⟨0, Nat.zero_le _, rfl, fun j hj => absurd hj (Nat.not_lt_zero j), B1.out⟩
  case round =>
    obtain ⟨i, hi, rfl, hgood, hbel⟩ := hrel
    by_cases hlt : i < n
    · obtain ⟨bc, oc, rfl, hcc⟩ := (HC.out.below hbel.out) (by omega)
      have ci := hcc i hlt
      have i1 : (0 : Int) ≤ (i : Int) := by omega
      have i2 : (i : Int) < (n : Int) := by omega
      by_cases hrg : 0 ≤ R i ∧ R i < (k : Int)
      · obtain ⟨r1, r2⟩ := hrg
        obtain ⟨q, hq, hqg, hqb⟩ := first_or (p := fun j => R j ≠ R i) i
        have HQG : Hid (∀ j, j < q → R j ≠ R i) := hqg
        have HQB : Hid (q < i → R q = R i) := fun h => Classical.byContradiction (hqb h)
        have hd1 : decide (R i < 0) = false := by simp; omega
        have hd2 : decide ((k : Int) ≤ R i) = false := by simp; omega
        have HRG : Hid (0 ≤ R i ∧ R i < (k : Int)) := ⟨r1, r2⟩
        obtain ⟨wm, hwm⟩ : ∃ x, x = wr := ⟨wr, rfl⟩
        have HCI : Hid (∀ j, j < n → wr.cell? ⟨bc, oc + j, none⟩ = some (.int .i64 (R j))) := hcc
        clear hqg hqb hcc
        go_wp2
        go_loopw [14] (fun y wx => ∃ j : Nat, j ≤ q ∧ y = .int .i64 j ∧ Hid (Below wm.heap.size wm wx)) (fun y _ => i - (intOf y).toNat)
        case atStart => exact ⟨0, Nat.zero_le _, rfl, by rw [hwm]; exact Below.refl _ _⟩
        case round =>
          obtain ⟨j, hj, rfl, hbx⟩ := hrel
          have ci' : wr.cell? ⟨bc, oc + i, none⟩ = some (.int .i64 (R i)) := held (w := wm) (by rw [hwm]; exact ci) hbx.out
          by_cases hjq : j < q
          · have cj : wr.cell? ⟨bc, oc + j, none⟩ = some (.int .i64 (R j)) := held (w := wm) (by rw [hwm]; exact HCI.out j (by omega)) hbx.out
            have hbe : (R i == R j) = false := by have := HQG.out j hjq; simp; omega
            have j1 : (0 : Int) ≤ (j : Int) := by omega
            have j2 : (j : Int) < (n : Int) := by omega
            have j3 : (j : Int) < (i : Int) := by omega
            clear hwm
            go_wp2
            go_quiet (fail)
            go_wp2
            go_roundw
            case rel => exact ⟨j + 1, by omega, by go_num, ⟨hbx.out.os, hbx.out.tape, hbx.out.output, hbx.out.size, hbx.out.block⟩⟩
            case measure => simp [intOf]; omega
          · obtain rfl : j = q := by omega
            by_cases hji : j < i
            · have hRj := HQB.out hji
              have cj : wr.cell? ⟨bc, oc + j, none⟩ = some (.int .i64 (R i)) := by rw [← hRj]; exact held (w := wm) (by rw [hwm]; exact HCI.out j (by omega)) hbx.out
              have HF := HNO.out (decide_eq_false fun h => (h.2 i hlt).2 j hji hRj)
              have HFF : Hid (okAll k pl pl PL n R dl DL = false ∧ errAll k pl pl PL n R = 2) := HF
              have hbe : (R i == R i) = true := by simp
              have j1 : (0 : Int) ≤ (j : Int) := by omega
              have j2 : (j : Int) < (n : Int) := by omega
              have j3 : (j : Int) < (i : Int) := by omega
              have BB : Hid (Below w.heap.size w wr) := below_step (b := wm) (by rw [hwm]; exact hbel.out) hbx.out (by rw [hwm]; exact hbel.out.size)
              clear HF hRj hwm
              go_wp2
              go_quiet (fail)
              go_wp2
              go_ret2
              rw [HFF.out.1, HFF.out.2]
              exact all_no ⟨BB.out.os, BB.out.tape, BB.out.output, BB.out.size, BB.out.block⟩
            · obtain rfl : j = i := by omega
              have HG : Hid (∀ j', j' < j + 1 → (0 ≤ R j' ∧ R j' < (k : Int)) ∧ ∀ j'', j'' < j' → R j'' ≠ R j') := fun j' hj' => by
                by_cases e : j' = j
                · subst e; exact ⟨HRG.out, HQG.out⟩
                · exact hgood.out j' (by omega)
              have BB : Hid (Below w.heap.size w wr) := below_step (b := wm) (by rw [hwm]; exact hbel.out) hbx.out (by rw [hwm]; exact hbel.out.size)
              clear hwm
              go_wp2
              go_roundw
              case rel => exact ⟨j + 1, by omega, by go_num, HG, BB⟩
              case measure => simp [intOf]; omega
      · have HF := HNO.out (decide_eq_false fun h => hrg (h.2 i hlt).1)
        have HFF : Hid (okAll k pl pl PL n R dl DL = false ∧ errAll k pl pl PL n R = 2) := HF
        clear HF hcc
        by_cases r1 : 0 ≤ R i
        · have hd1 : decide (R i < 0) = false := by simp; omega
          have hd2 : decide ((k : Int) ≤ R i) = true := by simp; omega
          clear hrg
          go_wp2
          go_ret2
          rw [HFF.out.1, HFF.out.2]
          exact all_no hbel.out
        · have hd1 : decide (R i < 0) = true := by simp; omega
          clear hrg
          go_wp2
          go_ret2
          rw [HFF.out.1, HFF.out.2]
          exact all_no hbel.out
    · obtain rfl : i = n := by omega
      have HON : onceB (k : Int) i R = true := decide_eq_true ⟨hnk, hgood.out⟩
      have HER : Hid (errAll k pl pl PL i R = 40 ∧ okAll k pl pl PL i R dl DL = fitB pl PL i dl DL) := HYE.out HON
      clear HON
      by_cases hdn : dl = i
      rotate_left
      · have hbn : ((dl : Int) != (i : Int)) = true := bne_yes (by omega)
        go_wp2
        go_ret2
        rw [HER.out.1, HER.out.2, show fitB pl PL i dl DL = false by unfold fitB; rw [decide_eq_false hdn]; rfl]
        exact all_no hbel.out
      subst hdn
      have hbn := bne_no (dl : Int)
      obtain ⟨w2, hw2⟩ : ∃ x, x = wr := ⟨wr, rfl⟩
      have B2 : Hid (Below w.heap.size w w2) := by rw [hw2]; exact hbel.out
      clear hbel
      go_wp2
      go_loopw [15] (fun x wr => ∃ i : Nat, i ≤ dl ∧ x = .int .i64 i ∧ Hid (∀ j, j < i → dOk pl PL DL j) ∧ Hid (Below w.heap.size w wr)) (fun x _ => dl - (intOf x).toNat)
      case atStart => exact ⟨0, Nat.zero_le _, rfl, fun j hj => absurd hj (Nat.not_lt_zero j), by rw [← hw2]; exact B2.out⟩
      case round =>
        obtain ⟨i, hi', rfl, hdg, hbel⟩ := hrel
        clear hw2 hlt hi
        by_cases hlt : i < dl
        · obtain ⟨bd, od, rfl, hcd⟩ := (HQ.out.below hbel.out).at_ (by omega)
          have c0 := hcd 0 (by omega)
          rw [Nat.add_zero] at c0
          have ci := hcd i hlt
          clear hcd
          have i1 : (0 : Int) ≤ (i : Int) := by omega
          have i2 : (i : Int) < (dl : Int) := by omega
          have i3 : (0 : Int) < (dl : Int) := by omega
          have HCL := rcell_any wr (DA i) (DL i) (DC i)
          have HBW : Hid (Below w.heap.size w wr) := hbel.out
          by_cases hok : dOk pl PL DL i
          · have HD2 : Hid (∀ j, j < i + 1 → dOk pl PL DL j) := fun j hj => by
              by_cases e : j = i
              · subst e; exact hok
              · exact hdg.out j (by omega)
            rw [decide_eq_true ⟨hok.1, hok.2.1⟩] at HCL
            have h00 : DL 0 = DL i := by rw [(HD2.out 0 (by omega)).2.2, (HD2.out i (by omega)).2.2]
            rw [h00] at c0
            have hb1 := bne_no (DL i : Int)
            by_cases hpl : 0 < pl
            · obtain ⟨bp, op, rfl, hcp⟩ := (HP.out.below hbel.out).at_ hpl
              have cp := hcp 0 hpl
              rw [Nat.add_zero] at cp
              have hpd : PL 0 = DL i := by have := hok.2.2; rw [cat_lo _ _ hpl] at this; exact this.symm
              rw [hpd] at cp
              have p1 : (0 : Int) < (pl : Int) := by omega
              have hd1 : decide ((0 : Int) < (pl : Int)) = true := by simp; omega
              clear hcp hok h00 hpd
              go_wp2_with (go_at_call 27; refine HCL.mono ?_; rintro e w' ⟨rfl, hw'⟩; obtain rfl := hw'.symm)
              go_quiet (fail)
              go_wp2
              go_roundw
              case rel => exact ⟨i + 1, by omega, by go_num, HD2, ⟨HBW.out.os, HBW.out.tape, HBW.out.output, HBW.out.size, HBW.out.block⟩⟩
              case measure => simp [intOf]; omega
            · have hd1 : decide ((0 : Int) < (pl : Int)) = false := by simp; omega
              clear hok h00
              go_wp2_with (go_at_call 27; refine HCL.mono ?_; rintro e w' ⟨rfl, hw'⟩; obtain rfl := hw'.symm)
              go_quiet (fail)
              go_wp2
              go_roundw
              case rel => exact ⟨i + 1, by omega, by go_num, HD2, ⟨HBW.out.os, HBW.out.tape, HBW.out.output, HBW.out.size, HBW.out.block⟩⟩
              case measure => simp [intOf]; omega
          · have HFN : Hid (fitB pl PL dl dl DL = false) := fit_no hlt hok
            by_cases hcell : 1 ≤ DL i ∧ DL i ≤ 65536
            · rw [decide_eq_true hcell] at HCL
              by_cases h0 : DL i = DL 0
              · have hpl : 0 < pl := by
                  refine Classical.byContradiction fun h => hok ⟨hcell.1, hcell.2, ?_⟩
                  obtain rfl : pl = 0 := by omega
                  rw [cat_at]; exact h0
                obtain ⟨bp, op, rfl, hcp⟩ := (HP.out.below hbel.out).at_ hpl
                have cp := hcp 0 hpl
                rw [Nat.add_zero] at cp
                have hne : DL i ≠ PL 0 := fun e => hok ⟨hcell.1, hcell.2, by rw [cat_lo _ _ hpl]; exact e⟩
                have hb1 : ((DL i : Int) != (DL 0 : Int)) = false := by rw [h0]; exact bne_no _
                have hb2 : ((DL i : Int) != (PL 0 : Int)) = true := bne_yes (by omega)
                have p1 : (0 : Int) < (pl : Int) := by omega
                have hd1 : decide ((0 : Int) < (pl : Int)) = true := by simp; omega
                clear hcp hok hcell h0 hne
                go_wp2_with (go_at_call 27; refine HCL.mono ?_; rintro e w' ⟨rfl, hw'⟩; obtain rfl := hw'.symm)
                go_quiet (fail)
                go_wp2
                go_ret2
                rw [HER.out.1, HER.out.2, HFN.out]
                exact all_no ⟨HBW.out.os, HBW.out.tape, HBW.out.output, HBW.out.size, HBW.out.block⟩
              · have hb1 : ((DL i : Int) != (DL 0 : Int)) = true := bne_yes (by omega)
                clear hok hcell h0
                go_wp2_with (go_at_call 27; refine HCL.mono ?_; rintro e w' ⟨rfl, hw'⟩; obtain rfl := hw'.symm)
                go_quiet (fail)
                go_wp2
                go_ret2
                rw [HER.out.1, HER.out.2, HFN.out]
                exact all_no ⟨HBW.out.os, HBW.out.tape, HBW.out.output, HBW.out.size, HBW.out.block⟩
            · rw [decide_eq_false hcell] at HCL
              clear hok hcell
              go_wp2_with (go_at_call 27; refine HCL.mono ?_; rintro e w' ⟨rfl, hw'⟩; obtain rfl := hw'.symm)
              go_quiet (fail)
              go_wp2
              go_ret2
              rw [HER.out.1, HER.out.2, HFN.out]
              exact all_no ⟨HBW.out.os, HBW.out.tape, HBW.out.output, HBW.out.size, HBW.out.block⟩
        · obtain rfl : i = dl := by omega
          have HFY : Hid (okAll k pl pl PL i R i DL = true) := by show _ = _; rw [HER.out.2]; exact fit_yes HA.out hdg.out
          obtain ⟨m, hm⟩ : ∃ m, m = PL 0 := ⟨_, rfl⟩
          have HM : Hid (m = PL 0) := hm
          have HAL : Hid ((∀ j, j < pl → PL j = m) ∧ (0 < pl → 1 ≤ m ∧ m ≤ 65536) ∧ (∀ j, j < i → 0 < pl → DL j = m)) := by
            refine ⟨fun j hj => by rw [hm]; exact (alikeB_true HA.out j hj).2.2, fun h => by rw [hm]; exact ⟨(alikeB_true HA.out 0 h).1, (alikeB_true HA.out 0 h).2.1⟩, fun j hj h => ?_⟩
            have := (hdg.out j hj).2.2
            rw [cat_lo _ _ h] at this
            rw [hm]; exact this
          have LP : Lst wr po pl PA PC (fun _ => m) P := (HP.out.below hbel.out).len' HAL.out.1
          have HT := twin_any wr po pl pc PA PC (fun _ => m) P (by omega) LP (fun j hj e => by
            have h1 := HAL.out.2.1 (by omega)
            obtain ⟨_, _, e', _⟩ := LP.rd j hj h1.1
            rw [e] at e'; cases e') (fun j hj => by have := HAL.out.2.1 (by omega); omega)
          have BW : Hid (Below w.heap.size w wr) := hbel.out
          have hsw := hbel.out.size
          clear hbel LP hm hdg
          go_wp2_with fail
          refine HT.mono ?_
          rintro e w4 ⟨oa, ocp, T, U, rfl, hcop, b4⟩
          have B4 : Hid (Below w.heap.size w w4) := below_step BW.out b4 hsw
          have hs4 := b4.size
          clear HT b4
          by_cases hpl : pl = 0
          · have HANS : Hid (Ans w w4 oa pl ocp m (upd k i R D P)) := copied_ans ((hcop.base hsw).congr (fun _ _ => rfl) (fun _ _ => rfl) (fun _ _ => rfl) (fun a ha' => absurd ha' (by omega))) (fun h => by omega)
            have hz : ¬ ((0 : Int) < (pl : Int)) := by omega
            clear hcop hpl
            go_wp2_with fail
            go_loop [18] (fun x => x = .int .i64 0) (fun _ => 0)
            case atStart => rfl
            case round =>
              obtain rfl := hrel
              go_wp2
              go_ret2
              rw [HFY.out, ← HM.out]
              exact ⟨oa, ocp, rfl, HANS.out, B4.out⟩
          · obtain ⟨m1, m2⟩ := HAL.out.2.1 (by omega)
            obtain ⟨ol, G0, rfl, hmat0⟩ := Copied.mat hcop (fun _ _ => rfl) m1 (by omega)
            have HM0 : Hid (∃ G U, Mat w4 w.heap.size w4.heap.size ol ocp pl m G U (upto 0 (upd k i R D P) P)) := ⟨G0, U, by rw [upto_zero]; exact hmat0.base hsw⟩
            have hol : w.heap.size ≤ ol := Nat.le_trans hsw hmat0.lo
            have hol2 := hmat0.hi
            clear hcop hmat0
            go_wp2_with fail
            go_loopw [18] (fun x wr => ∃ t : Nat, t ≤ pl ∧ x = .int .i64 t ∧ Hid (∃ G U, Mat wr w.heap.size wr.heap.size ol ocp pl m G U (upto t (upd k i R D P) P)) ∧ Hid (Keeps ol (ol + 1) w4 wr)) (fun x _ => pl - (intOf x).toNat)
            case atStart => exact ⟨0, Nat.zero_le _, rfl, HM0, Keeps.refl _ _ _⟩
            case round =>
              obtain ⟨t, ht, rfl, hmt, hkp⟩ := hrel
              by_cases htl : t < pl
              · have HROW := rrow_good wr k pl (k + t) hk1 hk hr (by omega)
                rw [Int.natCast_add] at HROW
                obtain ⟨wq, hwq⟩ : ∃ x, x = wr := ⟨wr, rfl⟩
                have HMT : Hid (∃ G U, Mat wq w.heap.size wq.heap.size ol ocp pl m G U (upto t (upd k i R D P) P)) := by rw [hwq]; exact hmt.out
                have HKP : Hid (Keeps ol (ol + 1) w4 wq) := by rw [hwq]; exact hkp.out
                rw [← hwq] at HROW ⊢
                clear hmt hkp hwq
                go_wp2_with fail
                refine HROW.mono ?_
                rintro e w5 ⟨gr, ur, rfl, hgr, hor, b5⟩
                have HOR : Hid (Own w5 gr k ur (gen k (k + t))) := hor
                have K5 : Hid (Keeps ol (ol + 1) w4 w5) := HKP.out.trans (Keeps.of_below b5)
                have hgr2 : ol < gr := by
                  obtain ⟨G, U, h⟩ := HMT.out
                  have := h.hi
                  omega
                have HM5 : Hid (∃ G U, Mat w5 w.heap.size w5.heap.size ol ocp pl m G U (put t (upd k 0 R D P t) (upto t (upd k i R D P) P))) := by
                  obtain ⟨G, U, h⟩ := HMT.out
                  refine ⟨G, U, (h.grow b5).congr fun a b _ _ => ?_⟩
                  by_cases e : a = t
                  · subst e; rw [put_at, upto_at, upd_zero]
                  · rw [put_ne _ _ e]
                have B5 : Hid (Below w.heap.size w w5) := B4.out.trans (K5.out.below B4.out.size hol)
                clear hor b5 HROW HMT
                go_wp2_with fail
                go_loopw [21] (fun y wx => ∃ j : Nat, j ≤ i ∧ y = .int .i64 j ∧ Hid (∃ G U, Mat wx w.heap.size wx.heap.size ol ocp pl m G U (put t (upd k j R D P t) (upto t (upd k i R D P) P))) ∧ Hid (Keeps ol (ol + 1) w5 wx)) (fun y _ => i - (intOf y).toNat)
                case atStart => exact ⟨0, Nat.zero_le _, rfl, HM5, Keeps.refl _ _ _⟩
                case round =>
                  obtain ⟨j, hj, rfl, hmj, hkj⟩ := hrel
                  by_cases hjl : j < i
                  · obtain ⟨G, U, hmat⟩ := hmj.out
                    have HMJ : Hid (Mat wr w.heap.size wr.heap.size ol ocp pl m G U (put t (upd k j R D P t) (upto t (upd k i R D P) P))) := hmat
                    have BX : Below w.heap.size w wr := B5.out.trans (hkj.out.below B5.out.size hol)
                    have d1 := hmat.cell_l htl
                    have z1 := hmat.frozen_l t
                    have hrow := hmat.row t htl
                    rw [put_at] at hrow
                    obtain ⟨bc, ocl, rfl, hcc⟩ := (HC.out.below BX) (by omega)
                    obtain ⟨bd, od, rfl, hcd⟩ := (HQ.out.below BX).at_ (by omega)
                    have d2 := hcc j hjl
                    have d3 := hcd j hjl
                    rw [HAL.out.2.2 j hjl (by omega)] at d3
                    obtain ⟨x1, x2⟩ := (hgood.out j hjl).1
                    obtain ⟨q, hq⟩ := Int.eq_ofNat_of_zero_le x1
                    have d4 := (HOR.out.keeps hkj.out (by omega)).cell (i := q) (by omega)
                    obtain ⟨fx, hfx⟩ : ∃ fx, fx = gen k (k + t) q := ⟨_, rfl⟩
                    rw [← hfx] at d4
                    have HFX : Hid (fx = fac k R t j) := by show _ = _; rw [hfx]; unfold fac; rw [hq, Int.toNat_natCast]
                    rw [hq] at d2
                    have x3 : (0 : Int) ≤ (q : Int) := by omega
                    have x4 : (q : Int) < (k : Int) := by omega
                    have HADD : Hid (Calls Try.prog 28 #[.slice (some ⟨G t, 0, none⟩) m (U t), .int .u8 (fx.n : Int), .slice (DA j) m (DC j)] wr.drew fun e w' => ∃ g, e = .returned (.slice (some ⟨g, 0, none⟩) m m) ∧ wr.drew.heap.size ≤ g ∧ Own w' g m m (fun b => K.add (upd k j R D P t b) (K.mul fx (D j b))) ∧ Below wr.drew.heap.size wr.drew w') :=
                      radd_k wr.drew fx (some ⟨G t, 0, none⟩) (DA j) m (U t) (DC j) (upd k j R D P t) (D j) (by omega) (hrow.rd.below (below_drew _ wr)) (by have := ((HQ.out.below BX).rd j hjl).below (below_drew _ wr); rwa [HAL.out.2.2 j hjl (by omega)] at this)
                    clear hmj hmat hrow hcc hcd x1 x2 hq hfx BX
                    have i1 : (0 : Int) ≤ (t : Int) := by omega
                    have i2 : (t : Int) < (pl : Int) := by omega
                    have i3 : (0 : Int) ≤ (j : Int) := by omega
                    have i4 : (j : Int) < (i : Int) := by omega
                    go_wp2
                    go_region_with (go_at_call 28; refine HADD.out.mono ?_; rintro e w7 ⟨g7, rfl, hg7, ho7, b7⟩; have c7 : w7.cell? ⟨ol, t, none⟩ = some (.slice (some ⟨G t, 0, none⟩) m (U t)) := held (w := wr.drew) d1 b7; have z7 : w7.frozen? ⟨ol, t, none⟩ = false := frozen_below (w := wr.drew) d1 z1 b7)
                    all_goals (
                      have HM7 : Hid (∃ G U, Mat (w7.setCell ⟨ol, t, none⟩ (.slice (some ⟨g7, 0, none⟩) m m)) w.heap.size (w7.setCell ⟨ol, t, none⟩ (.slice (some ⟨g7, 0, none⟩) m m)).heap.size ol ocp pl m G U (put t (upd k (j + 1) R D P t) (upto t (upd k i R D P) P))) := by
                        have b7' : Below wr.heap.size wr w7 := below_step (below_drew _ wr) b7 (Nat.le_refl _)
                        refine ⟨_, _, (renew_mat HMJ.out htl b7' hg7 ho7 (by have := hkj.out.size; have := B5.out.size; omega)).congr fun a b _ _ => ?_⟩
                        by_cases e : a = t
                        · subst e; rw [put_at, put_at, HFX.out]; exact upd_step k j R D P a b
                        · rw [put_ne _ _ e, put_ne _ _ e, put_ne _ _ e]
                      have HK7 : Hid (Keeps ol (ol + 1) w5 (w7.setCell ⟨ol, t, none⟩ (.slice (some ⟨g7, 0, none⟩) m m))) := (hkj.out.trans (Keeps.of_below (below_step (below_drew _ wr) b7 (Nat.le_refl _)))).setCell (Nat.le_refl _) (by omega) t _
                      clear ho7 b7 HADD d1 d2 d3 d4 c7 z7
                      go_wp2
                      go_roundw
                      case rel => exact ⟨j + 1, by omega, by go_num, HM7, HK7⟩
                      case measure => simp [intOf]; omega)
                  · obtain rfl : j = i := by omega
                    have HME : Hid (∃ G U, Mat wr w.heap.size wr.heap.size ol ocp pl m G U (upto (t + 1) (upd k j R D P) P)) := by
                      obtain ⟨G, U, h⟩ := hmj.out
                      refine ⟨G, U, h.congr fun a b _ _ => ?_⟩
                      rw [upto_succ]
                      by_cases e : a = t
                      · subst e; rw [put_at, if_pos rfl]
                      · rw [put_ne _ _ e, if_neg e]
                    have HKE : Hid (Keeps ol (ol + 1) w4 wr) := K5.out.trans hkj.out
                    go_wp2
                    go_roundw
                    case rel => exact ⟨t + 1, by omega, by go_num, HME, HKE⟩
                    case measure => simp [intOf]; omega
              · obtain rfl : t = pl := by omega
                have BE : Hid (Below w.heap.size w wr) := B4.out.trans (hkp.out.below B4.out.size hol)
                go_wp2
                go_ret2
                rw [HFY.out, ← HM.out]
                obtain ⟨G, U, h⟩ := hmt.out
                exact ⟨_, _, rfl, .inr ⟨ol, G, U, rfl, h.congr fun a b ha' _ => by unfold upto; rw [if_pos ha']⟩, BE.out⟩
end Go.Proofs.Ytgflgmkaaidfnaa
