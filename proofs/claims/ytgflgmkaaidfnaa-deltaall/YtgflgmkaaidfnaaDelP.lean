/- The walk of the statement that parity for several changed cells is what the document says, and nothing that is handed in changes. -/
import Derived.Test.YtgflgmkaaidfnaaDelO
namespace Go.Proofs.Ytgflgmkaaidfnaa
open Go.RowKit

theorem Ans.sol {w w' : World} {ao : Option Addr} {n cap cols : Nat} {H : M} (h : Ans w w' ao n cap cols H) : Sol w' w.heap.size w'.heap.size ao n cap cols H := h
theorem few_len {pl : Nat} {PL : Nat → Nat} (h : fewB pl PL = true) : pl ≤ 60 ∧ ∀ i, i < pl → PL i ≤ 70000 := by
  obtain ⟨h1, h2⟩ := fewB_true h
  exact ⟨h1, fun i hi => by have := h2 i hi; omega⟩

set_option maxHeartbeats 8000000 in
set_option maxRecDepth 100000 in
theorem all_walk (w : World) (k r : Int) (po : Option Addr) (pl pc : Nat) (PA : Nat → Option Addr) (PC PL : Nat → Nat) (P : M) (co : Option Addr) (n cc : Nat) (R : Nat → Int) (qo : Option Addr) (dl dc : Nat) (DA : Nat → Option Addr) (DC DL : Nat → Nat) (D : M)
    (hp : Lst w po pl PA PC PL P) (hpi : ∀ i, i < pl → PA i = none → PL i = 0 ∧ PC i = 0) (hcr : RdI w co n R) (hcn : co = none → n = 0 ∧ cc = 0) (hq : Lst w qo dl DA DC DL D) (hqi : ∀ i, i < dl → DA i = none → DL i = 0 ∧ DC i = 0) :
    Calls Try.prog 5 #[.int .i64 k, .int .i64 r, .slice po pl pc, .slice co n cc, .slice qo dl dc] w fun e w' => e = .returned (.bool true) ∧ Below w.heap.size w w' := by
  have HP : Hid (Lst w po pl PA PC PL P) := hp
  have HPI : Hid (∀ i, i < pl → PA i = none → PL i = 0 ∧ PC i = 0) := hpi
  have HC : Hid (RdI w co n R) := hcr
  have HCN : Hid (co = none → n = 0 ∧ cc = 0) := hcn
  have HQ : Hid (Lst w qo dl DA DC DL D) := hq
  have HQI : Hid (∀ i, i < dl → DA i = none → DL i = 0 ∧ DC i = 0) := hqi
  clear hp hpi hcr hcn hq hqi
  go_enter Try.func5, Try.ntmps5
  go_wp2_with fail
  refine (alive_any w).mono ?_
  rintro e w1 ⟨rfl, b1⟩
  replace HP : Hid (Lst w1 po pl PA PC PL P) := HP.out.below b1
  replace HC : Hid (RdI w1 co n R) := HC.out.below b1
  replace HQ : Hid (Lst w1 qo dl DA DC DL D) := HQ.out.below b1
  go_wp2_with fail
  refine (much_any w1 po pl pc PA PC PL P HP.out).mono ?_
  rintro e w' ⟨rfl, hw'⟩
  obtain rfl := hw'.symm
  cases hf1 : fewB pl PL
  · go_wp2_with fail
    go_ret
    exact ⟨rfl, b1⟩
  go_wp2_with fail
  refine (much_any w1 qo dl dc DA DC DL D HQ.out).mono ?_
  rintro e w' ⟨rfl, hw'⟩
  obtain rfl := hw'.symm
  cases hf2 : fewB dl DL
  · go_wp2_with fail
    go_ret
    exact ⟨rfl, b1⟩
  obtain ⟨f1, f2⟩ := few_len hf1
  obtain ⟨f3, f4⟩ := few_len hf2
  have HF2 : Hid (∀ i, i < pl → PL i ≤ 70000) := f2
  have HF4 : Hid (∀ i, i < dl → DL i ≤ 70000) := f4
  clear hf1 hf2 f2 f4
  by_cases hn : n ≤ 60
  rotate_left
  · have hn' : (60 : Int) < (n : Int) := by omega
    go_wp2_with fail
    go_ret
    exact ⟨rfl, b1⟩
  have hd60 : decide ((60 : Int) < (n : Int)) = false := by simp; omega
  go_wp2_with fail
  refine (twin_any w1 po pl pc PA PC PL P (by omega) HP.out HPI.out (fun i hi => by have := HF2.out i hi; omega)).mono ?_
  rintro e w2 ⟨xa, xc, XT, XU, rfl, hx, b2⟩
  have HX : Hid (Lst w2 xa pl XT XU PL P) := hx.lst
  have HXN : Hid (xa = none → pl = 0 ∧ xc = 0) := (by
    rintro rfl
    rcases hx.out.2 with ⟨e, _⟩ | ⟨g, c, cur, e, _⟩
    · cases e; exact ⟨rfl, rfl⟩
    · cases e)
  replace HP : Hid (Lst w2 po pl PA PC PL P) := HP.out.below b2
  replace HC : Hid (RdI w2 co n R) := HC.out.below b2
  replace HQ : Hid (Lst w2 qo dl DA DC DL D) := HQ.out.below b2
  replace b1 := below_step b1 b2 b1.size
  clear hx b2
  go_wp2_with fail
  refine (twin_any w2 qo dl dc DA DC DL D (by omega) HQ.out HQI.out (fun i hi => by have := HF4.out i hi; omega)).mono ?_
  rintro e w3 ⟨ya, yc, YT, YU, rfl, hy, b3⟩
  have HY : Hid (Lst w3 ya dl YT YU DL D) := hy.lst
  have HYN : Hid (ya = none → dl = 0 ∧ yc = 0) := (by
    rintro rfl
    rcases hy.out.2 with ⟨e, _⟩ | ⟨g, c, cur, e, _⟩
    · cases e; exact ⟨rfl, rfl⟩
    · cases e)
  replace HX : Hid (Lst w3 xa pl XT XU PL P) := HX.out.below b3
  replace HP : Hid (Lst w3 po pl PA PC PL P) := HP.out.below b3
  replace HC : Hid (RdI w3 co n R) := HC.out.below b3
  replace HQ : Hid (Lst w3 qo dl DA DC DL D) := HQ.out.below b3
  replace b1 := below_step b1 b3 b1.size
  clear hy b3
  go_wp2_with (at_builtin; refine wpList_append_ints (by rfl) (.tmp 38) (.tmp 39) (by rfl) (by rfl) co n cc R (by rfl) HCN.out HC.out (by omega) ?_; intro za zc w4 hz hzc b4)
  have HZ0 : Hid (RdI w4 za n R) := hz
  have HX0 : Hid (Lst w4 xa pl XT XU PL P) := HX.out.below b4
  have HY0 : Hid (Lst w4 ya dl YT YU DL D) := HY.out.below b4
  have HP0 : Hid (Lst w4 po pl PA PC PL P) := HP.out.below b4
  have HC0 : Hid (RdI w4 co n R) := HC.out.below b4
  have HQ0 : Hid (Lst w4 qo dl DA DC DL D) := HQ.out.below b4
  replace b1 := below_step b1 b4 b1.size
  clear hz b4 HX HY HP HC HQ
  refine (All_any w4 k r xa pl xc XT XU PL P za n zc R ya dl yc YT YU DL D HX0.out HXN.out HZ0.out hzc HY0.out HYN.out).mono ?_
  obtain ⟨ok, hok⟩ : ∃ ok, ok = okAll k r pl PL n R dl DL := ⟨_, rfl⟩
  obtain ⟨err, herr⟩ : ∃ err, err = errB ok (errAll k r pl PL n R) := ⟨_, rfl⟩
  obtain ⟨pn, hpn⟩ : ∃ pn, pn = lenB ok pl := ⟨_, rfl⟩
  have hpn2 : pn ≤ pl := by rw [hpn]; exact lenB_le _ _ _ fun _ => Nat.le_refl _
  obtain ⟨m, hm⟩ : ∃ m, m = PL 0 := ⟨_, rfl⟩
  have hmm : 0 < pn → m ≤ 100000 := fun h => by have := HF2.out 0 (by omega); omega
  have HREF : Hid (∀ w5, Below w4.heap.size w4 w5 → Calls Try.prog 19 #[.int .i64 k, .int .i64 r, .slice po pl pc, .slice co n cc, .slice qo dl dc] w5 fun e w' => ∃ ao cap, e = .returned (.tuple #[.slice ao pn cap, .int .i64 err]) ∧ Ans w5 w' ao pn cap m (upd k.toNat n R D P) ∧ Below w5.heap.size w5 w') := fun w5 b5 => by
    have := rAll_any w5 k r po pl pc PA PC PL P co n cc R qo dl dc DA DC DL D (HP0.out.below b5) (HC0.out.below b5) (HQ0.out.below b5)
    rw [← hok] at this
    refine this.mono ?_
    rintro e w' ⟨ao, cap, rfl, h1, h2⟩
    rw [← hpn] at h1 ⊢
    rw [← herr, hm]
    exact ⟨ao, cap, rfl, h1, h2⟩
  rw [← hok]
  rintro e w5 ⟨pa, pcp, rfl, hans, b5⟩
  rw [← hpn] at hans ⊢
  rw [← herr]
  rw [← hm] at hans
  have HSO : Hid (Sol w5 w4.heap.size w5.heap.size pa pn pcp m (upd k.toNat n R D P)) := hans.sol
  have B5 : Hid (Below w4.heap.size w4 w5) := b5
  have hs5 := b5.size
  have HR := HREF.out w5 b5
  clear hans hok herr hpn hm HREF b5
  go_wp2_with fail
  refine HR.mono ?_
  rintro e w6 ⟨pa2, pc2, rfl, hans2, b6⟩
  have HS2 : Hid (∃ A C, Lst w6 pa2 pn A C (fun _ => m) (upd k.toNat n R D P)) := hans2.lst
  replace HSO : Hid (Sol w6 w4.heap.size w5.heap.size pa pn pcp m (upd k.toNat n R D P)) := HSO.out.below b6
  have B6 : Hid (Below w4.heap.size w4 w6) := below_step B5.out b6 hs5
  have hs6 := B6.out.size
  clear hans2 b6 HR
  obtain ⟨PA1, PC1, hl1⟩ := HSO.out.lst
  obtain ⟨PA2, PC2, hl2⟩ := HS2.out
  have HSAME := same_k w6 pa pa2 pn pcp pc2 _ _ _ _ _ _ (by omega) hl1 hl2
  clear hl1 hl2
  go_wp2_with fail
  refine HSAME.mono ?_
  rintro e w7 ⟨rfl, b7⟩
  replace HSO : Hid (Sol w7 w4.heap.size w5.heap.size pa pn pcp m (upd k.toNat n R D P)) := HSO.out.below b7
  have B7 : Hid (Below w4.heap.size w4 w7) := below_step B6.out b7 hs6
  clear b7 HSAME HS2
  go_wp2_with fail
  refine (spoil_sol w7 w4.heap.size w5.heap.size pa pn pcp m _ (by omega) hmm HSO.out).mono ?_
  rintro e w8 ⟨rfl, k8⟩
  have HX8 : Hid (Lst w8 xa pl XT XU PL P) := HX0.out.past (HX0.out.below B7.out) k8 (Nat.le_refl _)
  have HY8 : Hid (Lst w8 ya dl YT YU DL D) := HY0.out.past (HY0.out.below B7.out) k8 (Nat.le_refl _)
  have HP8 : Hid (Lst w8 po pl PA PC PL P) := HP0.out.past (HP0.out.below B7.out) k8 (Nat.le_refl _)
  have HQ8 : Hid (Lst w8 qo dl DA DC DL D) := HQ0.out.past (HQ0.out.below B7.out) k8 (Nat.le_refl _)
  have HC8 : Hid (RdI w8 co n R) := HC0.out.past (HC0.out.below B7.out) k8 (Nat.le_refl _)
  have HZ8 : Hid (RdI w8 za n R) := HZ0.out.past (HZ0.out.below B7.out) k8 (Nat.le_refl _)
  have B8 : Hid (Below w.heap.size w w8) := by
    have h47 := B7.out
    exact (below_step b1 h47 b1.size).trans (k8.below (by have := b1.size; have := h47.size; omega) b1.size)
  clear k8 HSO HX0 HY0 HP0 HQ0 HC0 HZ0 b1
  go_wp2_with fail
  go_loopw [19] (fun x wr => ∃ i : Nat, i ≤ n ∧ x = .int .i64 i ∧ Hid (Below w8.heap.size w8 wr)) (fun x _ => n - (intOf x).toNat)
  case atStart => exact ⟨0, Nat.zero_le _, rfl, Below.refl _ _⟩
  case round =>
    obtain ⟨i, hi, rfl, hbel⟩ := hrel
    by_cases hlt : i < n
    · obtain ⟨bz, oz, rfl, hcz⟩ := (HZ8.out.below hbel.out) (by omega)
      obtain ⟨bc, oc, rfl, hcc⟩ := (HC8.out.below hbel.out) (by omega)
      have d1 := hcz i hlt
      have d2 := hcc i hlt
      have hbn := bne_no (R i)
      have i1 : (0 : Int) ≤ (i : Int) := by omega
      have i2 : (i : Int) < (n : Int) := by omega
      clear hcz hcc
      go_wp2
      go_quiet (fail)
      go_wp2
      go_roundw
      case rel => exact ⟨i + 1, by omega, by go_num, ⟨hbel.out.os, hbel.out.tape, hbel.out.output, hbel.out.size, hbel.out.block⟩⟩
      case measure => simp [intOf]; omega
    · obtain rfl : i = n := by omega
      have bw := hbel.out
      have HS1 := same_k wr xa po pl xc pc _ _ _ _ _ _ (by omega) (HX8.out.below bw) (HP8.out.below bw)
      have BW : Hid (Below w.heap.size w wr) := below_step B8.out bw B8.out.size
      replace HY8 : Hid (Lst wr ya dl YT YU DL D) := HY8.out.below bw
      replace HQ8 : Hid (Lst wr qo dl DA DC DL D) := HQ8.out.below bw
      clear bw
      go_wp2_with fail
      refine HS1.mono ?_
      rintro e w9 ⟨rfl, b9⟩
      have HS2 := same_k w9 ya qo dl yc dc _ _ _ _ _ _ (by omega) (HY8.out.below b9) (HQ8.out.below b9)
      have B9 : Hid (Below w.heap.size w w9) := below_step BW.out b9 BW.out.size
      clear HS1 b9
      go_wp2_with fail
      refine HS2.mono ?_
      rintro e w10 ⟨rfl, b10⟩
      have B10 : Hid (Below w.heap.size w w10) := below_step B9.out b10 B9.out.size
      clear HS2 b10
      go_wp2_with fail
      go_ret
      exact ⟨by simp, B10.out⟩
end Go.Proofs.Ytgflgmkaaidfnaa
