/- What All and Parity of the program answer, whatever is handed in. -/
import Derived.Test.YtgflgmkaaidfnaaDelE
namespace Go.Proofs.Ytgflgmkaaidfnaa
open Go.RowKit

theorem Part.fill {w w' : World} {B rows cols k g : Nat} {G : Nat → Nat} {f : M} (h : Part w B rows cols k G f) (hb : Below w.heap.size w w') (hg : w.heap.size ≤ g) (ho : Own w' g cols cols (f k)) :
    Part (w'.setCell ⟨B, k, none⟩ (.slice (some ⟨g, 0, none⟩) cols cols)) B rows cols (k + 1) (put k g G) f := by
  obtain ⟨c, hr, hc⟩ := h.lst
  have hB := hr.lt
  have hr2 := (hr.of_block (hb.block B hB)).set k (.slice (some ⟨g, 0, none⟩) cols cols)
  refine ⟨⟨_, hr2, fun i hi => ?_⟩, fun i hi => ?_, fun i hi => ?_, fun i j hi hj hne => ?_⟩
  · by_cases e : i = k
    · subst e; rw [put_at]; simp
    · rw [put_ne _ _ e]; simp only [e, if_false]; exact hc i (by omega)
  · by_cases e : i = k
    · subst e; rw [put_at]; exact ho.of_block (Below.heap_setCell _ _ _ _ (by simp; omega))
    · rw [put_ne _ _ e]
      have h1 := (h.row i (by omega)).lt
      have h2 := h.los i (by omega)
      exact (h.row i (by omega)).of_block ((Below.heap_setCell _ _ _ _ (by simp; omega)).trans (hb.block _ h1))
  · by_cases e : i = k
    · subst e; rw [put_at]; omega
    · rw [put_ne _ _ e]; exact h.los i (by omega)
  · by_cases e : i = k
    · by_cases e' : j = k
      · omega
      · subst e
        rw [put_at, put_ne _ _ e']
        have := (h.row j (by omega)).lt
        omega
    · by_cases e' : j = k
      · subst e'
        rw [put_at, put_ne _ _ e]
        have := (h.row i (by omega)).lt
        omega
      · rw [put_ne _ _ e, put_ne _ _ e']; exact h.apart i j (by omega) (by omega) hne
theorem Mat.base {w : World} {B B' T l cl rows cols : Nat} {G U : Nat → Nat} {H : M} (h : Mat w B T l cl rows cols G U H) (hb : B' ≤ B) : Mat w B' T l cl rows cols G U H :=
  ⟨h.lst, h.room, h.row, Nat.le_trans hb h.lo, h.hi, fun i hi => Nat.le_trans hb (h.los i hi), h.his, h.apart⟩
theorem Made.older {w0 w : World} {ok : Bool} {err : Int} {n cols : Nat} {H : M} {e : Ending} {w' : World} (h : Made w ok err n cols H e w') (hb : Below w0.heap.size w0 w) : Made w0 ok err n cols H e w' := by
  obtain ⟨ao, cap, he, ha, hb'⟩ := h
  refine ⟨ao, cap, he, ?_, below_step hb hb' hb.size⟩
  rcases ha with h1 | ⟨l, G, U, e, hm⟩
  · exact .inl h1
  · exact .inr ⟨l, G, U, e, hm.base hb.size⟩
theorem okRow_zero (k r : Int) : okRow k r 0 = mayB k r := by
  unfold okRow
  cases h : mayB k r
  · rfl
  · obtain ⟨h1, h2, h3, h4⟩ := mayB_true h
    rw [Bool.true_and]
    exact decide_eq_true (by omega)
theorem all_no {w w' : World} {err : Int} {n cols : Nat} {H : M} (hb : Below w.heap.size w w') : Made w false err n cols H (.returned (.tuple #[.slice none 0 0, .int .i64 err])) w' := ⟨none, 0, rfl, .inl ⟨rfl, rfl, rfl⟩, hb⟩
theorem bne_yes {a b : Int} (h : a ≠ b) : (a != b) = true := by simp [h]
theorem bne_no (a : Int) : (a != a) = false := by simp

set_option maxHeartbeats 4000000 in
set_option maxRecDepth 100000 in
theorem all_good (w : World) (k pl n pc cc dc : Nat) (po co qo : Option Addr) (PA : Nat → Option Addr) (PC PL : Nat → Nat) (P : M) (R : Nat → Int) (DA : Nat → Option Addr) (DC DL : Nat → Nat) (D : M)
    (hk1 : 1 ≤ k) (hk : k ≤ 12) (hr : pl ≤ 4) (hp : Lst w po pl PA PC PL P) (hpn : po = none → pl = 0 ∧ pc = 0) (hcr : RdI w co n R) (hcc : n ≤ cc) (hq : Lst w qo n DA DC DL D) (hqn : qo = none → n = 0 ∧ dc = 0)
    (ha : alikeB pl PL = true) (ho : onceB (k : Int) n R = true) (hf : alikeB (pl + n) (cat pl PL DL) = true) :
    Calls Try.prog 11 #[.int .i64 (k : Int), .int .i64 (pl : Int), .slice po pl pc, .slice co n cc, .slice qo n dc] w (Made w true 0 pl (PL 0) (upd k n R D P)) := by
  have hROW := Row_any w (k : Int) (pl : Int) 0
  rw [okRow_zero, show mayB (k : Int) (pl : Int) = true from decide_eq_true (by omega)] at hROW
  have e0 : errB true 2 = 0 := rfl
  obtain ⟨o1, o2⟩ := onceB_true ho
  have HA : Hid (∀ w1, Below w.heap.size w w1 → Calls Try.prog 21 #[.slice po pl pc] w1 fun e w' => e = .returned (.bool true) ∧ w' = w1) := fun w1 hb => by
    have := alike_any w1 po pl pc PA PC PL P (by omega) (hp.below hb); rwa [ha] at this
  have HO : Hid (∀ w1, Below w.heap.size w w1 → Calls Try.prog 24 #[.int .i64 (k : Int), .slice co n cc] w1 fun e w' => e = .returned (.bool true) ∧ w' = w1) := fun w1 hb => by
    have := once_any w1 (k : Int) co n cc R hcc (by omega) (hcr.below hb); rwa [ho] at this
  have HC : Hid (∀ w1, Below w.heap.size w w1 → Calls Try.prog 25 #[.slice (some ⟨w1.heap.size, 0, none⟩) 2 2] (w1.alloc (.cells #[.slice po pl pc, .slice qo n dc] 27)) fun e w' => ∃ ro rc, e = .returned (.slice ro (pl + n) rc) ∧ Lst w' ro (pl + n) (cat pl PA DA) (cat pl PC DC) (cat pl PL DL) (cat pl P D) ∧ Below w.heap.size w w') := fun w1 hb => by
    refine (concat_any (w1.alloc (.cells #[.slice po pl pc, .slice qo n dc] 27)) w1.heap.size po qo pl pc n dc PA DA PC PL DC DL P D ?_ ?_ (by omega) (by omega) hpn hqn ((hp.below hb).alloc _) ((hq.below hb).alloc _)).mono ?_
    · rw [cell_of_row _ _ _ _ _ _ (heap_alloc_new w1 _)]; rfl
    · rw [cell_of_row _ _ _ _ _ _ (heap_alloc_new w1 _)]; rfl
    · rintro e w' ⟨ro, rc, rfl, hl, hb'⟩
      exact ⟨ro, rc, rfl, hl, below_step (hb.alloc hb.size _) hb' (by have := hb.size; simp; omega)⟩
  have HP : Hid (Lst w po pl PA PC PL P) := hp
  have HCR : Hid (RdI w co n R) := hcr
  have HQ : Hid (Lst w qo n DA DC DL D) := hq
  have HL : Hid ((∀ i, i < pl → PL i = PL 0) ∧ (∀ i, i < n → 0 < pl → DL i = PL 0) ∧ (0 < pl → 1 ≤ PL 0 ∧ PL 0 ≤ 65536)) := by
    have h1 := alikeB_true ha
    have h2 := alikeB_true hf
    refine ⟨fun i hi => (h1 i hi).2.2, fun i hi hp => ?_, fun hp => ⟨(h1 0 hp).1, (h1 0 hp).2.1⟩⟩
    have := (h2 (pl + i) (by omega)).2.2
    rw [cat_hi, cat_lo _ _ hp] at this
    exact this
  have HR : Hid (∀ j, j < n → 0 ≤ R j ∧ R j < (k : Int)) := fun j hj => (o2 j hj).1
  have HF : Hid (alikeB (pl + n) (cat pl PL DL) = true) := hf
  obtain ⟨m, hm⟩ : ∃ m, m = PL 0 := ⟨_, rfl⟩
  have HM : Hid (m = PL 0) := hm
  rw [← hm]
  have hm1 := run_make_row' (P := Try.prog) 27 23 (.slice none 0 0) 24 Try.underlying27 info34 rfl .i64 .i64 pl (by omega) (by omega)
  obtain ⟨j0, hj, hj0, hj1, hj2⟩ := info_parts info45d
  have hbn1 := bne_no (pl : Int)
  have hbn2 := bne_no (n : Int)
  clear hp hcr hq hpn hqn ha ho hf hm o2 hcc
  go_enter Try.func11, Try.ntmps11
  go_wp2_with fail
  refine hROW.mono ?_
  rintro e w1 ⟨ra, rc, rfl, _, b1⟩
  go_wp2_with fail
  refine (HA.out w1 b1).mono ?_
  rintro e w' ⟨rfl, hw'⟩
  obtain rfl := hw'.symm
  go_wp2_with fail
  refine (HO.out w1 b1).mono ?_
  rintro e w' ⟨rfl, hw'⟩
  obtain rfl := hw'.symm
  go_wp2_with fail
  refine (HC.out w1 b1).mono ?_
  rintro e w2 ⟨ro, rc2, rfl, hl2, b2⟩
  have HA2 : Calls Try.prog 21 #[.slice ro (pl + n) rc2] w2 fun e w' => e = .returned (.bool true) ∧ w' = w2 := by
    have := alike_any w2 ro (pl + n) rc2 _ _ _ _ (by omega) hl2; rwa [HF.out] at this
  clear hl2 b1 hROW
  go_wp2_with fail
  refine HA2.mono ?_
  rintro e w' ⟨rfl, hw'⟩
  obtain rfl := hw'.symm
  clear HA2
  go_wp2_with fail
  refine (prod_any w2 (k : Int) (pl : Int) co qo n cc n dc).mono ?_
  rintro e w3 ⟨b1, b2', b3, b4, rfl, x1, x2, x3, x4, bel3⟩
  have B3 : Hid (Below w.heap.size w w3) := below_step b2 bel3 b2.size
  obtain ⟨w4, hw4⟩ : ∃ w4, w4 = w3.alloc (.cells (madeCells #[.slice none 0 0] pl) 23) := ⟨_, rfl⟩
  have hmk := hm1 w3
  rw [← hw4] at hmk
  have B4 : Hid (Below w.heap.size w w4) := by rw [hw4]; exact B3.out.alloc B3.out.size _
  have X1 : Hid (w4.cell? ⟨b1, 0, none⟩ = some (.int .i64 (k : Int)) ∧ b1 < w3.heap.size) := ⟨by rw [hw4]; exact held x1 (below_alloc _ _), World.block_lt_of_cell? w3 _ x1⟩
  have X2 : Hid (w4.cell? ⟨b2', 0, none⟩ = some (.int .i64 (pl : Int)) ∧ b2' < w3.heap.size) := ⟨by rw [hw4]; exact held x2 (below_alloc _ _), World.block_lt_of_cell? w3 _ x2⟩
  have X3 : Hid (w4.cell? ⟨b3, 0, none⟩ = some (.slice co n cc) ∧ b3 < w3.heap.size) := ⟨by rw [hw4]; exact held x3 (below_alloc _ _), World.block_lt_of_cell? w3 _ x3⟩
  have X4 : Hid (w4.cell? ⟨b4, 0, none⟩ = some (.slice qo n dc) ∧ b4 < w3.heap.size) := ⟨by rw [hw4]; exact held x4 (below_alloc _ _), World.block_lt_of_cell? w3 _ x4⟩
  have HP0 : Hid (Part w4 w3.heap.size pl m 0 (fun _ => 0) (upd k n R D P)) := by
    rw [hw4]
    exact ⟨⟨_, row_made w3 23 pl _, fun i hi => absurd hi (Nat.not_lt_zero i)⟩, fun i hi => absurd hi (Nat.not_lt_zero i), fun i hi => absurd hi (Nat.not_lt_zero i), fun i j hi => absurd hi (Nat.not_lt_zero i)⟩
  have hs3 := B3.out.size
  have hs4 : w3.heap.size < w4.heap.size := by rw [hw4]; simp
  clear x1 x2 x3 x4 bel3 b2 hw4 hm1
  go_wp2_with fail
  go_loopw [62] (fun x wr => ∃ j : Nat, j ≤ pl ∧ x = .int .i64 j ∧ Hid (∃ G, Part wr w3.heap.size pl m j G (upd k n R D P)) ∧ Hid (Keeps w3.heap.size (w3.heap.size + 1) w4 wr)) (fun x _ => pl - (intOf x).toNat)
  case atStart => exact ⟨0, Nat.zero_le _, rfl, ⟨_, HP0.out⟩, Keeps.refl _ _ _⟩
  case round =>
    obtain ⟨j, hjp, rfl, hpart, hkeep⟩ := hrel
    have bw : Below w.heap.size w wr := B4.out.trans (hkeep.out.below B4.out.size hs3)
    by_cases hlt : j < pl
    · obtain ⟨G, hpt⟩ := hpart.out
      have HPT : Hid (Part wr w3.heap.size pl m j G (upd k n R D P)) := hpt
      have c1 := hkeep.out.cell X1.out.1 (.inl X1.out.2)
      have c2 := hkeep.out.cell X2.out.1 (.inl X2.out.2)
      have c3 := hkeep.out.cell X3.out.1 (.inl X3.out.2)
      have c4 := hkeep.out.cell X4.out.1 (.inl X4.out.2)
      have hLP := HP.out.below bw
      have HRP : Hid (Rd wr (PA j) m (P j)) := by have := hLP.rd j hlt; rwa [HL.out.1 j hlt, ← HM.out] at this
      obtain ⟨bp, op, rfl, hcp⟩ := hLP.at_ (by omega)
      have c5 := hcp j hlt
      rw [HL.out.1 j hlt, ← HM.out] at c5
      have HADD := added_any wr b1 b2' b3 b4 k pl j n cc dc co qo R DA DC DL D c1 c2 c3 c4 hk1 hk hr hlt (by omega) (HCR.out.below bw) HR.out (HQ.out.below bw)
      have BW : Hid (Below w.heap.size w wr) := bw
      have hm2 : 1 ≤ m ∧ m ≤ 65536 := by rw [HM.out]; exact HL.out.2.2 (by omega)
      have hLD : Hid (∀ i, i < n → DL i = m) := fun i hi => by rw [HM.out]; exact HL.out.2.1 i hi (by omega)
      have hwz := bw.size
      clear hpart hpt hLP hcp c1 c2 c3 c4 bw
      have i1 : (0 : Int) ≤ (j : Int) := by omega
      have i2 : (j : Int) < (pl : Int) := by omega
      go_wp2_with fail
      refine HADD.mono ?_
      rintro e w5 ⟨ta, tc, rfl, ht, b5⟩
      obtain ⟨TS, hTS⟩ : ∃ X, X = termsOf (fac k R j) DA DL DC n := ⟨_, rfl⟩
      have HTS : Hid (termsOf (fac k R j) DA DL DC n = TS) := hTS.symm
      have HT : Hid (w5.ownsRow wr.heap.size 45 2 (.slice ta n tc) n TS) := by rw [hTS]; exact ht
      have B5 : Hid (Below wr.heap.size wr w5) := b5
      have hs5 := b5.size
      clear ht hTS b5 HADD
      go_wp2_with (at_builtin; refine wpList_append_lies _ (by rfl) (.tmp 71) (.tmp 74) 51 (by rfl) wr.heap.size 45 j0 (.agg #[.int .u8 0, .slice none 0 0]) 2 32 Try.underlying51 hj hj0 hj1 hj2 (by rfl) (by decide) (.slice ta n tc) n TS (by rfl) (HT.out.alloc _) ⟨w5.heap.size, 0, none⟩ 1 1 [.int .u8 1, .slice (PA j) m (PC j)] (by rfl) (by rfl) (news_at rfl #[.int .u8 1, .slice (PA j) m (PC j)] 45) (by simp [Value.oneCell']) (by decide) (by unfold maxLen; omega) (by omega) (by simp; omega) (w5.heap.size + 1) (by simp) ?_; intro g6 cap6 w6 hown6 hgrow6 _ _)
      have B6 : Hid (Below wr.heap.size wr w6) := (B5.out.alloc (by omega) _).grown hgrow6 (by simp; omega) (fun r hr => (HT.out.lt r hr).1)
      have HT6 : Trm w6 (some ⟨g6, 0, none⟩) (n + 1) (cat n (fac k R j) (fun _ => 1)) (cat n DA (fun _ => PA j)) (cat n DC (fun _ => PC j)) (cat n DL (fun _ => m)) (cat n D (fun _ => P j)) := by
        refine trm_owns (B := wr.heap.size) (c := cap6) ?_ fun i hi => ?_
        · rw [termsOf, cat_at, cat_at, cat_at, cat_at, termsOf_congr (F' := fac k R j) (A' := DA) (L' := DL) (C' := DC) (fun i hi => cat_lo _ _ hi) (fun i hi => cat_lo _ _ hi) (fun i hi => cat_lo _ _ hi) (fun i hi => cat_lo _ _ hi), HTS.out]
          exact hown6
        · by_cases e : i < n
          · rw [cat_lo _ _ e, cat_lo _ _ e, cat_lo _ _ e]
            exact ((HQ.out.below BW.out).rd i e).below B6.out
          · obtain rfl : i = n := by omega
            rw [cat_at, cat_at, cat_at]
            exact HRP.out.below B6.out
      have HSUM := dsum_any w6 (some ⟨g6, 0, none⟩) (n + 1) cap6 m _ _ _ _ _ (by omega) (by omega) hm2.1 hm2.2 HT6 (fun i hi => by
        by_cases e : i < n
        · rw [cat_lo _ _ e]; exact hLD.out i e
        · obtain rfl : i = n := by omega
          rw [cat_at])
      have hs6 := B6.out.size
      clear hown6 hgrow6 HT6
      refine HSUM.mono ?_
      rintro e w7 ⟨g7, rfl, hg7, ho7, b7⟩
      have B7 : Hid (Below wr.heap.size wr w7) := below_step B6.out b7 hs6
      have HO7 : Hid (Own w7 g7 m m (upd k n R D P j)) := by rw [show upd k n R D P j = lin (n + 1) (cat n (fac k R j) (fun _ => 1)) (cat n D (fun _ => P j)) from funext fun b => (upd_sum k n R D P j b).symm]; exact ho7
      obtain ⟨cv, hrow, _⟩ := HPT.out.lst
      have hrow7 := hrow.of_block (B7.out.block _ hrow.lt)
      have c7 := hrow7.cell hlt
      have z7 := hrow7.frozen j
      have hB := hrow.lt
      have HP7 : Hid (∃ G, Part (w7.setCell ⟨w3.heap.size, j, none⟩ (.slice (some ⟨g7, 0, none⟩) m m)) w3.heap.size pl m (j + 1) G (upd k n R D P)) := ⟨_, HPT.out.fill B7.out (by omega) HO7.out⟩
      have HK7 : Hid (Keeps w3.heap.size (w3.heap.size + 1) w4 (w7.setCell ⟨w3.heap.size, j, none⟩ (.slice (some ⟨g7, 0, none⟩) m m))) := (hkeep.out.trans (Keeps.of_below B7.out)).setCell (Nat.le_refl _) (by omega) j _
      clear hrow hrow7 ho7 b7 HSUM
      go_wp2_with fail
      go_roundw
      case rel => exact ⟨j + 1, by omega, by go_num, HP7, HK7⟩
      case measure => simp [intOf]; omega
    · obtain rfl : j = pl := by omega
      have BW : Hid (Below w.heap.size w wr) := bw
      clear bw
      go_wp2
      go_ret2
      obtain ⟨G, hpt⟩ := hpart.out
      exact ⟨_, _, rfl, .inr ⟨w3.heap.size, G, _, rfl, hpt.mat.base hs3⟩, BW.out⟩

set_option maxHeartbeats 2000000 in
set_option maxRecDepth 100000 in
theorem All_any (w : World) (k r : Int) (po : Option Addr) (pl pc : Nat) (PA : Nat → Option Addr) (PC PL : Nat → Nat) (P : M) (co : Option Addr) (n cc : Nat) (R : Nat → Int) (qo : Option Addr) (dl dc : Nat) (DA : Nat → Option Addr) (DC DL : Nat → Nat) (D : M)
    (hp : Lst w po pl PA PC PL P) (hpn : po = none → pl = 0 ∧ pc = 0) (hcr : RdI w co n R) (hcc : n ≤ cc) (hq : Lst w qo dl DA DC DL D) (hqn : qo = none → dl = 0 ∧ dc = 0) :
    Calls Try.prog 11 #[.int .i64 k, .int .i64 r, .slice po pl pc, .slice co n cc, .slice qo dl dc] w (Made w (okAll k r pl PL n R dl DL) (errAll k r pl PL n R) pl (PL 0) (upd k.toNat n R D P)) := by
  have hROW := Row_any w k r 0
  rw [okRow_zero] at hROW
  cases hmay : mayB k r
  · rw [show okAll k r pl PL n R dl DL = false by unfold okAll; rw [hmay]; rfl, show errAll k r pl PL n R = 2 by unfold errAll; rw [hmay]; rfl]
    rw [hmay] at hROW
    have e0 : errB false 2 = 2 := rfl
    clear hmay hp hcr hq
    go_enter Try.func11, Try.ntmps11
    go_wp2_with fail
    refine hROW.mono ?_
    rintro e w1 ⟨ra, rc, rfl, _, b1⟩
    go_wp2_with fail
    go_ret2
    exact all_no b1
  · obtain ⟨h1, h2, h3, h4⟩ := mayB_true hmay
    have e0 : errB true 2 = 0 := rfl
    by_cases hpr : (pl : Int) = r
    · subst hpr
      obtain ⟨k, rfl⟩ := Int.eq_ofNat_of_zero_le (show 0 ≤ k by omega)
      rw [Int.toNat_natCast]
      cases ha : alikeB pl PL
      · have ep : parB (pl : Int) pl PL = false := by unfold parB; rw [ha, Bool.and_false]
        rw [show okAll k pl pl PL n R dl DL = false by unfold okAll; rw [ep, Bool.false_and, Bool.and_false], show errAll k pl pl PL n R = 40 by unfold errAll; rw [hmay, ep]; rfl]
        rw [hmay] at hROW
        have HA : Hid (∀ w1, Below w.heap.size w w1 → Calls Try.prog 21 #[.slice po pl pc] w1 fun e w' => e = .returned (.bool false) ∧ w' = w1) := fun w1 hb => by
          have := alike_any w1 po pl pc PA PC PL P (by omega) (hp.below hb); rwa [ha] at this
        have hbn := bne_no (pl : Int)
        clear hmay hp hcr hq ha ep
        go_enter Try.func11, Try.ntmps11
        go_wp2_with fail
        refine hROW.mono ?_
        rintro e w1 ⟨ra, rc, rfl, _, b1⟩
        go_wp2_with fail
        refine (HA.out w1 b1).mono ?_
        rintro e w' ⟨rfl, hw'⟩
        obtain rfl := hw'.symm
        go_wp2_with fail
        go_ret2
        exact all_no b1
      · have ep : parB (pl : Int) pl PL = true := by unfold parB; rw [ha, decide_eq_true rfl]; rfl
        cases ho : onceB k n R
        · rw [show okAll k pl pl PL n R dl DL = false by unfold okAll; rw [ho, Bool.false_and, Bool.and_false, Bool.and_false], show errAll k pl pl PL n R = 2 by unfold errAll; rw [hmay, ep, ho]; rfl]
          rw [hmay] at hROW
          have HA : Hid (∀ w1, Below w.heap.size w w1 → Calls Try.prog 21 #[.slice po pl pc] w1 fun e w' => e = .returned (.bool true) ∧ w' = w1) := fun w1 hb => by
            have := alike_any w1 po pl pc PA PC PL P (by omega) (hp.below hb); rwa [ha] at this
          have HO : Hid (∀ w1, Below w.heap.size w w1 → Calls Try.prog 24 #[.int .i64 (k : Int), .slice co n cc] w1 fun e w' => e = .returned (.bool false) ∧ w' = w1) := fun w1 hb => by
            have := once_any w1 (k : Int) co n cc R hcc (by omega) (hcr.below hb); rwa [ho] at this
          have hbn := bne_no (pl : Int)
          clear hmay hp hcr hq ha ep ho
          go_enter Try.func11, Try.ntmps11
          go_wp2_with fail
          refine hROW.mono ?_
          rintro e w1 ⟨ra, rc, rfl, _, b1⟩
          go_wp2_with fail
          refine (HA.out w1 b1).mono ?_
          rintro e w' ⟨rfl, hw'⟩
          obtain rfl := hw'.symm
          go_wp2_with fail
          refine (HO.out w1 b1).mono ?_
          rintro e w' ⟨rfl, hw'⟩
          obtain rfl := hw'.symm
          go_wp2_with fail
          go_ret2
          exact all_no b1
        · have ee : errAll k pl pl PL n R = 40 := by unfold errAll; rw [hmay, ep, ho]; rfl
          by_cases hdn : dl = n
          · subst hdn
            cases hf : alikeB (pl + dl) (cat pl PL DL)
            · rw [show okAll k pl pl PL dl R dl DL = false by unfold okAll fitB; rw [hf, Bool.and_false, Bool.and_false, Bool.and_false, Bool.and_false], ee]
              rw [hmay] at hROW
              obtain ⟨o1, _⟩ := onceB_true ho
              have HA : Hid (∀ w1, Below w.heap.size w w1 → Calls Try.prog 21 #[.slice po pl pc] w1 fun e w' => e = .returned (.bool true) ∧ w' = w1) := fun w1 hb => by
                have := alike_any w1 po pl pc PA PC PL P (by omega) (hp.below hb); rwa [ha] at this
              have HO : Hid (∀ w1, Below w.heap.size w w1 → Calls Try.prog 24 #[.int .i64 (k : Int), .slice co dl cc] w1 fun e w' => e = .returned (.bool true) ∧ w' = w1) := fun w1 hb => by
                have := once_any w1 (k : Int) co dl cc R hcc (by omega) (hcr.below hb); rwa [ho] at this
              have HC : Hid (∀ w1, Below w.heap.size w w1 → Calls Try.prog 25 #[.slice (some ⟨w1.heap.size, 0, none⟩) 2 2] (w1.alloc (.cells #[.slice po pl pc, .slice qo dl dc] 27)) fun e w' => ∃ ro rc, e = .returned (.slice ro (pl + dl) rc) ∧ Lst w' ro (pl + dl) (cat pl PA DA) (cat pl PC DC) (cat pl PL DL) (cat pl P D) ∧ Below w.heap.size w w') := fun w1 hb => by
                refine (concat_any (w1.alloc (.cells #[.slice po pl pc, .slice qo dl dc] 27)) w1.heap.size po qo pl pc dl dc PA DA PC PL DC DL P D ?_ ?_ (by omega) (by omega) hpn hqn ((hp.below hb).alloc _) ((hq.below hb).alloc _)).mono ?_
                · rw [cell_of_row _ _ _ _ _ _ (heap_alloc_new w1 _)]; rfl
                · rw [cell_of_row _ _ _ _ _ _ (heap_alloc_new w1 _)]; rfl
                · rintro e w' ⟨ro, rc, rfl, hl, hb'⟩
                  exact ⟨ro, rc, rfl, hl, below_step (hb.alloc hb.size _) hb' (by have := hb.size; simp; omega)⟩
              have HF : Hid (alikeB (pl + dl) (cat pl PL DL) = false) := hf
              have hbn := bne_no (pl : Int)
              have hbn2 := bne_no (dl : Int)
              clear hmay hp hcr hq ha ep ho ee hf
              go_enter Try.func11, Try.ntmps11
              go_wp2_with fail
              refine hROW.mono ?_
              rintro e w1 ⟨ra, rc, rfl, _, b1⟩
              go_wp2_with fail
              refine (HA.out w1 b1).mono ?_
              rintro e w' ⟨rfl, hw'⟩
              obtain rfl := hw'.symm
              go_wp2_with fail
              refine (HO.out w1 b1).mono ?_
              rintro e w' ⟨rfl, hw'⟩
              obtain rfl := hw'.symm
              go_wp2_with fail
              refine (HC.out w1 b1).mono ?_
              rintro e w2 ⟨ro, rc2, rfl, hl2, b2⟩
              have HA2 : Calls Try.prog 21 #[.slice ro (pl + dl) rc2] w2 fun e w' => e = .returned (.bool false) ∧ w' = w2 := by
                have := alike_any w2 ro (pl + dl) rc2 _ _ _ _ (by omega) hl2; rwa [HF.out] at this
              clear hl2
              go_wp2_with fail
              refine HA2.mono ?_
              rintro e w' ⟨rfl, hw'⟩
              obtain rfl := hw'.symm
              go_wp2_with fail
              go_ret2
              exact all_no b2
            · rw [show okAll k pl pl PL dl R dl DL = true from okAll_of hmay rfl ha ho rfl hf, ee]
              exact all_good w k pl dl pc cc dc po co qo PA PC PL P R DA DC DL D (by omega) (by omega) (by omega) hp hpn hcr hcc hq hqn ha ho hf
          · rw [show okAll k pl pl PL n R dl DL = false by unfold okAll fitB; rw [decide_eq_false hdn, Bool.false_and, Bool.and_false, Bool.and_false, Bool.and_false], ee]
            rw [hmay] at hROW
            have HA : Hid (∀ w1, Below w.heap.size w w1 → Calls Try.prog 21 #[.slice po pl pc] w1 fun e w' => e = .returned (.bool true) ∧ w' = w1) := fun w1 hb => by
              have := alike_any w1 po pl pc PA PC PL P (by omega) (hp.below hb); rwa [ha] at this
            have HO : Hid (∀ w1, Below w.heap.size w w1 → Calls Try.prog 24 #[.int .i64 (k : Int), .slice co n cc] w1 fun e w' => e = .returned (.bool true) ∧ w' = w1) := fun w1 hb => by
              have := once_any w1 (k : Int) co n cc R hcc (by omega) (hcr.below hb); rwa [ho] at this
            have hbn := bne_no (pl : Int)
            have hbn2 : ((dl : Int) != (n : Int)) = true := bne_yes (by omega)
            clear hmay hp hcr hq ha ep ho ee
            go_enter Try.func11, Try.ntmps11
            go_wp2_with fail
            refine hROW.mono ?_
            rintro e w1 ⟨ra, rc, rfl, _, b1⟩
            go_wp2_with fail
            refine (HA.out w1 b1).mono ?_
            rintro e w' ⟨rfl, hw'⟩
            obtain rfl := hw'.symm
            go_wp2_with fail
            refine (HO.out w1 b1).mono ?_
            rintro e w' ⟨rfl, hw'⟩
            obtain rfl := hw'.symm
            go_wp2_with fail
            go_ret2
            exact all_no b1
    · have ep : parB r pl PL = false := by unfold parB; rw [decide_eq_false hpr]; rfl
      rw [show okAll k r pl PL n R dl DL = false by unfold okAll; rw [ep, Bool.false_and, Bool.and_false], show errAll k r pl PL n R = 40 by unfold errAll; rw [hmay, ep]; rfl]
      rw [hmay] at hROW
      have hbn : ((pl : Int) != r) = true := bne_yes hpr
      clear hmay hp hcr hq ep
      go_enter Try.func11, Try.ntmps11
      go_wp2_with fail
      refine hROW.mono ?_
      rintro e w1 ⟨ra, rc, rfl, _, b1⟩
      go_wp2_with fail
      go_ret2
      exact all_no b1

set_option maxHeartbeats 400000 in
theorem Parity_any (w : World) (k r : Int) (po : Option Addr) (pl pc : Nat) (PA : Nat → Option Addr) (PC PL : Nat → Nat) (P : M) (c : Int) (qo : Option Addr) (dl dc : Nat) (d : Nat → K)
    (hp : Lst w po pl PA PC PL P) (hpn : po = none → pl = 0 ∧ pc = 0) (hq : Rd w qo dl d) :
    Calls Try.prog 10 #[.int .i64 k, .int .i64 r, .slice po pl pc, .int .i64 c, .slice qo dl dc] w (Made w (okAll k r pl PL 1 (fun _ => c) 1 (fun _ => dl)) (errAll k r pl PL 1 (fun _ => c)) pl (PL 0) (upd k.toNat 1 (fun _ => c) (fun _ => d) P)) := by
  have HALL : Hid (Calls Try.prog 11 #[.int .i64 k, .int .i64 r, .slice po pl pc, .slice (some ⟨w.heap.size, 0, none⟩) 1 1, .slice (some ⟨w.heap.size + 1, 0, none⟩) 1 1] ((w.alloc (.cells #[.int .i64 c] 3)).alloc (.cells #[.slice qo dl dc] 23)) (Made ((w.alloc (.cells #[.int .i64 c] 3)).alloc (.cells #[.slice qo dl dc] 23)) (okAll k r pl PL 1 (fun _ => c) 1 (fun _ => dl)) (errAll k r pl PL 1 (fun _ => c)) pl (PL 0) (upd k.toNat 1 (fun _ => c) (fun _ => d) P))) :=
    All_any _ k r po pl pc PA PC PL P (some ⟨w.heap.size, 0, none⟩) 1 1 (fun _ => c) (some ⟨w.heap.size + 1, 0, none⟩) 1 1 _ _ _ _ ((hp.alloc _).alloc _) hpn ((rdI_one rfl c).below (below_alloc _ _)) (Nat.le_refl _) (lst_one (by simp) qo dl dc d (hq.alloc _)) (fun h => by cases h)
  clear hp hq hpn
  go_enter Try.func10, Try.ntmps10
  go_wp2_with fail
  refine HALL.out.mono ?_
  rintro e w1 h1
  obtain ⟨ao, cap, rfl, ha, hb⟩ := h1.older (below_2 w _ _)
  go_wp2_with fail
  go_ret2
  exact ⟨ao, cap, rfl, ha, hb⟩
end Go.Proofs.Ytgflgmkaaidfnaa
