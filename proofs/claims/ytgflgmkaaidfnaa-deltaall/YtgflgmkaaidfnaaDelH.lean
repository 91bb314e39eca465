/- The walk of the statement that several changes at once are the same as one by one, in any order. -/
import Derived.Test.YtgflgmkaaidfnaaDelG
namespace Go.Proofs.Ytgflgmkaaidfnaa
open Go.RowKit

theorem row_cap {k : IntKind} {w : World} {a : Option Addr} {len cap : Nat} {zs : List Int} (h : IsRow k w a len cap zs) : len ≤ cap := by
  rcases h with ⟨_, rfl, rfl, _⟩ | ⟨_, _, hl, _⟩
  · exact Nat.le_refl _
  · exact hl
theorem ans_lst {w w' : World} {ao : Option Addr} {n cap cols : Nat} {H : M} (h : Ans w w' ao n cap cols H) : (ao = none → n = 0 ∧ cap = 0) ∧ ∃ A C, Lst w' ao n A C (fun _ => cols) H := by
  refine ⟨fun e => ?_, h.lst⟩
  rcases h with ⟨_, h1, h2⟩ | ⟨l, G, U, e', _⟩
  · exact ⟨h1, h2⟩
  · rw [e] at e'; cases e'
theorem okAll_one {k r : Int} {pl n j : Nat} {PL DL : Nat → Nat} {R : Nat → Int} (h : okAll k r pl PL n R n DL = true) (hj : j < n) : okAll k r pl (fun _ => PL 0) 1 (fun _ => R j) 1 (fun _ => DL j) = true := by
  obtain ⟨h1, h2, h3, h4, _, h6⟩ := okAll_true h
  obtain ⟨o1, o2⟩ := onceB_true h4
  obtain ⟨g1, g2, _, _⟩ := mayB_true h1
  have a3 := alikeB_true h3
  have a6 := alikeB_true h6
  refine okAll_of h1 h2 (decide_eq_true fun i hi => ⟨(a3 0 (by omega)).1, (a3 0 (by omega)).2.1, rfl⟩) (decide_eq_true ⟨by omega, fun i hi => ⟨(o2 j hj).1, fun i' hi' => by omega⟩⟩) rfl (decide_eq_true fun i hi => ?_)
  have b := a6 (pl + j) (by omega)
  rw [cat_hi] at b
  by_cases e : i < pl
  · have b0 := a3 0 (by omega)
    rw [cat_lo _ _ e, cat_lo _ _ (by omega)]
    exact ⟨b0.1, b0.2.1, rfl⟩
  · obtain rfl : i = pl := by omega
    rw [cat_at]
    refine ⟨b.1, b.2.1, b.2.2.trans ?_⟩
    by_cases e0 : 0 < i
    · rw [cat_lo _ _ e0, cat_lo _ _ e0]
    · obtain rfl : i = 0 := by omega
      have b1 := a6 (0 + j) (by omega)
      rw [cat_hi] at b1
      rw [cat_at, cat_at]
      have b2 := b1.2.2
      rw [cat_at] at b2
      exact b2.symm
theorem okAll_again {k r : Int} {pl n : Nat} {PL DL : Nat → Nat} {R : Nat → Int} (h : okAll k r pl PL n R n DL = true) : okAll k r pl (fun _ => PL 0) n R n DL = true := by
  obtain ⟨h1, h2, h3, h4, h5, h6⟩ := okAll_true h
  have a3 := alikeB_true h3
  refine okAll_of h1 h2 ?_ h4 h5 ?_
  · rw [alikeB_same (L' := PL) fun i hi => (a3 i hi).2.2.symm]; exact h3
  · rw [alikeB_same (L' := cat pl PL DL) fun i hi => ?_]
    · exact h6
    · by_cases e : i < pl
      · rw [cat_lo _ _ e, cat_lo _ _ e]; exact (a3 i e).2.2.symm
      · obtain ⟨q, rfl⟩ : ∃ q, i = pl + q := ⟨i - pl, by omega⟩
        rw [cat_hi, cat_hi]
theorem errAll_ne (k r : Int) (pl : Nat) (PL : Nat → Nat) (n : Nat) (R : Nat → Int) : errAll k r pl PL n R ≠ 0 := by
  unfold errAll
  split
  · split
    · split
      · decide
      · decide
    · decide
  · decide

set_option maxHeartbeats 4000000 in
set_option maxRecDepth 100000 in
theorem steps_walk (w : World) (k r : Int) (po : Option Addr) (pl pc : Nat) (PA : Nat → Option Addr) (PC PL : Nat → Nat) (P : M) (co : Option Addr) (n cc : Nat) (R : Nat → Int) (qo : Option Addr) (dl dc : Nat) (DA : Nat → Option Addr) (DC DL : Nat → Nat) (D : M)
    (hp : Lst w po pl PA PC PL P) (hpn : po = none → pl = 0 ∧ pc = 0) (hcr : RdI w co n R) (hcc : n ≤ cc) (hq : Lst w qo dl DA DC DL D) (hqn : qo = none → dl = 0 ∧ dc = 0) :
    Calls Try.prog 7 #[.int .i64 k, .int .i64 r, .slice po pl pc, .slice co n cc, .slice qo dl dc] w fun e w' => e = .returned (.bool true) ∧ Below w.heap.size w w' := by
  have HP : Hid (Lst w po pl PA PC PL P) := hp
  have HPN : Hid (po = none → pl = 0 ∧ pc = 0) := hpn
  have HC : Hid (RdI w co n R) := hcr
  have HQ : Hid (Lst w qo dl DA DC DL D) := hq
  have HQN : Hid (qo = none → dl = 0 ∧ dc = 0) := hqn
  clear hp hpn hcr hq hqn
  go_enter Try.func7, Try.ntmps7
  go_wp2_with fail
  refine (alive_any w).mono ?_
  rintro e w1 ⟨rfl, b1⟩
  replace HP : Hid (Lst w1 po pl PA PC PL P) := HP.out.below b1
  replace HC : Hid (RdI w1 co n R) := HC.out.below b1
  replace HQ : Hid (Lst w1 qo dl DA DC DL D) := HQ.out.below b1
  go_wp2_with fail
  refine (much_any w1 po pl pc PA PC PL P HP.out).mono ?_
  rintro e w' ⟨rfl, hw'⟩
  obtain rfl := hw'.symm
  cases hf1 : fewB pl PL
  · go_wp2_with fail
    go_ret
    exact ⟨rfl, b1⟩
  go_wp2_with fail
  refine (much_any w1 qo dl dc DA DC DL D HQ.out).mono ?_
  rintro e w' ⟨rfl, hw'⟩
  obtain rfl := hw'.symm
  cases hf2 : fewB dl DL
  · go_wp2_with fail
    go_ret
    exact ⟨rfl, b1⟩
  clear hf1 hf2
  by_cases hn : n ≤ 60
  rotate_left
  · have hn' : (60 : Int) < (n : Int) := by omega
    go_wp2_with fail
    go_ret
    exact ⟨rfl, b1⟩
  go_wp2_with fail
  refine (All_any w1 k r po pl pc PA PC PL P co n cc R qo dl dc DA DC DL D HP.out HPN.out HC.out hcc HQ.out HQN.out).mono ?_
  cases hok : okAll k r pl PL n R dl DL
  · obtain ⟨err, herr⟩ : ∃ err, err = errAll k r pl PL n R := ⟨_, rfl⟩
    have hne : (err != 0) = true := by rw [herr]; exact bne_iff_ne.2 (errAll_ne _ _ _ _ _ _)
    have e1 : errB false err = err := rfl
    have e2 : lenB false pl = 0 := rfl
    rw [← herr]
    clear herr hok
    rintro e w2 ⟨ao, cap, rfl, _, b2⟩
    replace b1 := below_step b1 b2 b1.size
    clear b2
    go_wp2_with fail
    go_ret
    exact ⟨rfl, b1⟩
  obtain ⟨hmay, rfl, ha, ho, rfl, hf⟩ := okAll_true hok
  obtain ⟨g1, g2, g3, g4⟩ := mayB_true hmay
  obtain ⟨k, rfl⟩ := Int.eq_ofNat_of_zero_le (show 0 ≤ k by omega)
  rw [Int.toNat_natCast]
  have HOK : Hid (okAll (k : Int) (pl : Int) pl PL dl R dl DL = true) := hok
  have HAL : Hid (∀ i, i < pl → PL i = PL 0) := fun i hi => (alikeB_true ha i hi).2.2
  have e1 : ∀ err, errB true err = 0 := fun _ => rfl
  have e2 : lenB true pl = pl := rfl
  obtain ⟨m, hm⟩ : ∃ m, m = PL 0 := ⟨_, rfl⟩
  have HM : Hid (m = PL 0) := hm
  rw [← hm]
  clear hm hok hmay ha ho hf
  rintro e w2 ⟨qa, qc, rfl, han, b2⟩
  obtain ⟨hqn2, QA, QC, hql⟩ := ans_lst han
  have HZ : Hid (Lst w2 qa pl QA QC (fun _ => m) (upd k dl R D P)) := hql
  have HZN : Hid (qa = none → pl = 0 ∧ qc = 0) := hqn2
  replace HP : Hid (Lst w2 po pl PA PC (fun _ => m) P) := (HP.out.below b2).len' (by rw [HM.out]; exact HAL.out)
  replace HC : Hid (RdI w2 co dl R) := HC.out.below b2
  replace HQ : Hid (Lst w2 qo dl DA DC DL D) := HQ.out.below b2
  replace b1 := below_step b1 b2 b1.size
  clear b2 han hql hqn2
  go_wp2_with fail
  go_loopw [14, 15] (fun v x wr => ∃ j : Nat, j ≤ dl ∧ (∃ z : Int, x = .int .i64 z ∧ z = (j : Int) - 1) ∧ (∃ vo vc, v = .slice vo pl vc ∧ Hid ((vo = none → pl = 0 ∧ vc = 0) ∧ ∃ VA VC Q, Lst wr vo pl VA VC (fun _ => m) Q ∧ ∀ i b, K.add (lin j (fac k R i) D b) (Q i b) = upd k dl R D P i b)) ∧ Hid (Below w2.heap.size w2 wr)) (fun _ x _ => (intOf x + 1).toNat)
  case atStart => exact ⟨dl, Nat.le_refl _, ⟨_, rfl, rfl⟩, ⟨po, pc, rfl, HPN.out, PA, PC, P, HP.out, fun i b => rfl⟩, Below.refl _ _⟩
  case round =>
    obtain ⟨j, hj, ⟨z, rfl, hz⟩, ⟨vo, vc, rfl, hv⟩, hbel⟩ := hrel
    by_cases hj0 : j = 0
    · subst hj0
      have hz0 : z < 0 := by omega
      obtain ⟨hvn, VA, VC, Q, hlq, heq⟩ := hv.out
      have bw := hbel.out
      have HN : Hid (Lst wr vo pl VA VC (fun _ => m) (upd k dl R D P)) := hlq.congr fun i b _ _ => by
        have := heq i b
        rwa [lin_zero, K.zero_add] at this
      have HALL := All_any wr k (pl : Int) qa pl qc QA QC (fun _ => m) (upd k dl R D P) co dl cc R qo dl dc DA DC DL D (HZ.out.below bw) HZN.out (HC.out.below bw) hcc (HQ.out.below bw) HQN.out
      rw [show okAll (k : Int) (pl : Int) pl (fun _ => m) dl R dl DL = true by rw [HM.out]; exact okAll_again HOK.out, Int.toNat_natCast] at HALL
      replace b1 := below_step b1 bw b1.size
      replace HZ : Hid (Lst wr qa pl QA QC (fun _ => m) (upd k dl R D P)) := HZ.out.below bw
      replace HP : Hid (Lst wr po pl PA PC (fun _ => m) P) := HP.out.below bw
      clear hv hvn hlq heq hz bw
      go_wp2_with fail
      refine HALL.mono ?_
      rintro e w3 ⟨ba, bc, rfl, han, b3⟩
      obtain ⟨_, BA, BC, hbl⟩ := ans_lst han
      have hb2 : Lst w3 ba pl BA BC (fun _ => m) P := hbl.congr fun i b _ _ => upd_twice k dl R D P i b
      have HB : Hid (Lst w3 ba pl BA BC (fun _ => m) P) := hb2
      have HS1 := same_k w3 vo qa pl vc qc _ _ _ _ _ _ (by omega) (HN.out.below b3) (HZ.out.below b3)
      replace HP : Hid (Lst w3 po pl PA PC (fun _ => m) P) := HP.out.below b3
      replace b1 := below_step b1 b3 b1.size
      clear han hbl hb2 b3 HALL HN HZ
      go_wp2_with fail
      refine HS1.mono ?_
      rintro e w4 ⟨rfl, b4⟩
      have HS2 := same_k w4 ba po pl bc pc _ _ _ _ _ _ (by omega) (HB.out.below b4) (HP.out.below b4)
      replace b1 := below_step b1 b4 b1.size
      clear HS1 b4
      go_wp2_with fail
      refine HS2.mono ?_
      rintro e w5 ⟨rfl, b5⟩
      replace b1 := below_step b1 b5 b1.size
      clear b5 HS2
      go_wp2_with fail
      go_ret
      exact ⟨rfl, b1⟩
    · obtain ⟨j, rfl⟩ : ∃ q, j = q + 1 := ⟨j - 1, by omega⟩
      obtain rfl : z = (j : Int) := by omega
      have hlt : j < dl := by omega
      obtain ⟨hvn, VA, VC, Q, hlq, heq⟩ := hv.out
      have bw := hbel.out
      obtain ⟨bc, oc, rfl, hcc'⟩ := HC.out (by omega)
      obtain ⟨bd, od, rfl, hcd⟩ := HQ.out.at_ (by omega)
      have d1 := held (hcc' j hlt) bw
      have d2 := held (hcd j hlt) bw
      have HPAR := Parity_any wr.drew k (pl : Int) vo pl vc VA VC (fun _ => m) Q (R j) (DA j) (DL j) (DC j) (D j) (hlq.below (below_drew _ wr)) hvn (((HQ.out.rd j hlt).below bw).below (below_drew _ wr))
      rw [show okAll (k : Int) (pl : Int) pl (fun _ => m) 1 (fun _ => R j) 1 (fun _ => DL j) = true by rw [HM.out]; exact okAll_one HOK.out hlt, Int.toNat_natCast] at HPAR
      have HPP : Hid (Calls Try.prog 10 #[.int .i64 (k : Int), .int .i64 (pl : Int), .slice vo pl vc, .int .i64 (R j), .slice (DA j) (DL j) (DC j)] wr.drew (Made wr.drew true (errAll (k : Int) (pl : Int) pl (fun _ => m) 1 (fun _ => R j)) pl m (upd k 1 (fun _ => R j) (fun _ => D j) Q))) := HPAR
      have HEQ : Hid (∀ i b, K.add (lin j (fac k R i) D b) (upd k 1 (fun _ => R j) (fun _ => D j) Q i b) = upd k dl R D P i b) := fun i b => upd_back heq i b
      have BW : Hid (Below w2.heap.size w2 wr) := bw
      have hws := bw.size
      clear hv hvn hlq heq hcc' hcd HPAR hj0 hz bw
      have i1 : (0 : Int) ≤ (j : Int) := by omega
      have i2 : (j : Int) < (dl : Int) := by omega
      go_wp2
      go_region_held3 (fun w' => w'.cell? ⟨bc, oc + j, none⟩ = some (.int .i64 (R j)) ∧ w'.cell? ⟨bd, od + j, none⟩ = some (.slice (DA j) (DL j) (DC j))) (go_keep)
        ((go_at_call 10; refine HPP.out.mono ?_; rintro e w3 ⟨na, nc, rfl, han, b3⟩; have s1 : w3.cell? ⟨bc, oc + j, none⟩ = some (.int .i64 (R j)) := held (w := wr.drew) d1 b3; have s2 : w3.cell? ⟨bd, od + j, none⟩ = some (.slice (DA j) (DL j) (DC j)) := held (w := wr.drew) d2 b3))
      have HV3 : Hid ((na = none → pl = 0 ∧ nc = 0) ∧ ∃ VA VC Q, Lst w3 na pl VA VC (fun _ => m) Q ∧ ∀ i b, K.add (lin j (fac k R i) D b) (Q i b) = upd k dl R D P i b) := by
        obtain ⟨h1, A3, C3, h3⟩ := ans_lst han
        exact ⟨h1, A3, C3, _, h3, HEQ.out⟩
      have HB3 : Hid (Below w2.heap.size w2 w3) := below_step (below_step BW.out (below_drew _ wr) hws) b3 hws
      clear s1 s2 han b3 d1 d2 HPP
      go_wp2
      go_roundw
      case rel => exact ⟨j, by omega, ⟨_, rfl, by go_num⟩, ⟨na, nc, rfl, HV3⟩, HB3⟩
      case measure => simp [intOf]
end Go.Proofs.Ytgflgmkaaidfnaa
