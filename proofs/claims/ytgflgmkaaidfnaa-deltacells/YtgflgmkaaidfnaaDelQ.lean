/- The walk of the statement that parity for one changed cell is what the document says, and nothing that is handed in changes. -/
import Derived.Test.YtgflgmkaaidfnaaDelP
namespace Go.Proofs.Ytgflgmkaaidfnaa
open Go.RowKit

theorem row_nil {k : IntKind} {w : World} {a : Option Addr} {len cap : Nat} {zs : List Int} (h : IsRow k w a len cap zs) : a = none → len = 0 ∧ cap = 0 := by
  rcases h with ⟨_, rfl, rfl, _⟩ | ⟨x, rfl, _⟩
  · exact fun _ => ⟨rfl, rfl⟩
  · intro e; cases e
theorem row_rdK {w : World} {a : Option Addr} {len cap : Nat} {zs : List Int} (h : IsRow .u8 w a len cap zs) : Rd w a len (ofInts zs) := by
  rcases h with ⟨rfl, rfl, rfl, rfl⟩ | ⟨x, rfl, h1, h2, h3, h4, h5⟩
  · exact fun hn => absurd hn (Nat.lt_irrefl 0)
  · intro hp
    obtain ⟨b, off, sp⟩ := x
    have hs : sp = none := by have := spot_none (h4 0 (by omega)); rw [Addr.add_zero'] at this; exact this
    subst hs
    refine ⟨b, off, rfl, fun i hi => ?_⟩
    have := h4 i (by omega)
    rw [Addr.add_lit] at this
    have hb : 0 ≤ zs.getD i 0 ∧ zs.getD i 0 ≤ 255 := by
      rw [List.getD_eq_getElem?_getD, List.getElem?_eq_getElem (show i < zs.length by omega)]
      exact Go.bounds_u8 (h5 _ (List.getElem_mem _))
    show _ = some (Value.int .u8 ((ofInts zs i).n : Int))
    rw [this, ofInts, K.of_n _ (by omega), Int.toNat_of_nonneg hb.1]
theorem same1_any (w : World) (ao bo : Option Addr) (n ca cb : Nat) (f : Nat → K) (ha : Rd w ao n f) (hb : Rd w bo n f) :
    Calls Try.prog 16 #[.slice ao n ca, .slice bo n cb] w fun e w' => e = .returned (.bool true) ∧ w' = w := by
  have v1 := conv_any ha ca
  have v2 := conv_any hb cb
  clear ha hb
  go_enter Try.func16, Try.ntmps16
  go_wp2
  go_ret
  exact ⟨by simp, rfl⟩
/-- Bytes that were answered, in a list of one, are written over. -/
theorem spoil_one (w : World) (B T n cap : Nat) (ao : Option Addr) (f : Nat → K) (hn : n ≤ 100000) (h : RowSol w B T ao n cap f) (hT : T ≤ w.heap.size) :
    Calls Try.prog 18 #[.slice (some ⟨w.heap.size, 0, none⟩) 1 1] (w.alloc (.cells #[.slice ao n cap] 23)) fun e w' => e = .returned (.tuple #[]) ∧ Keeps B T w w' := by
  rcases h with ⟨rfl, rfl, rfl⟩ | ⟨g, rfl, hB, hg, ho⟩
  · refine (spoil_nil _ w.heap.size (by rw [cell_of_row _ _ _ _ _ _ (heap_alloc_new w _)]; rfl)).mono ?_
    rintro e w' ⟨rfl, hb⟩
    exact ⟨rfl, Keeps.of_below (below_step (below_alloc w _) hb (by simp))⟩
  · refine (spoil_rows (w.alloc (.cells #[.slice (some ⟨g, 0, none⟩) n cap] 23)) B T w.heap.size 1 1 n (fun _ => g) (fun _ => cap) (fun _ => f) (by omega) hn ⟨fun _ => .slice (some ⟨g, 0, none⟩) n cap, ⟨_, heap_alloc_new w _, rfl, fun i hi => ?_⟩, fun i _ => rfl⟩ (fun i _ => ho.alloc _) ⟨fun i _ => ⟨hB, hg, by omega⟩, fun i j hi hj hne => absurd hne (by omega)⟩ (Nat.le_refl _)).mono ?_
    · obtain rfl : i = 0 := by omega
      rfl
    · rintro e w' ⟨rfl, hk⟩
      exact ⟨rfl, ((Keeps.refl B T w).alloc _).trans hk⟩
theorem Rd.past {w0 w w' : World} {B T : Nat} {ao : Option Addr} {n : Nat} {f : Nat → K} (h0 : Rd w0 ao n f) (h : Rd w ao n f) (hk : Keeps B T w w') (hB : w0.heap.size ≤ B) : Rd w' ao n f :=
  h.keeps hk fun a hn ha => .inl (Nat.lt_of_lt_of_le (h0.lt hn a ha) hB)

set_option maxHeartbeats 8000000 in
set_option maxRecDepth 100000 in
theorem cells_walk (w : World) (k r : Int) (po : Option Addr) (pl pc : Nat) (PA : Nat → Option Addr) (PC PL : Nat → Nat) (P : M) (c : Int) (oo : Option Addr) (lo cp : Nat) (f : Nat → K) (no : Option Addr) (ln cn : Nat) (h : Nat → K)
    (hp : Lst w po pl PA PC PL P) (hpi : ∀ i, i < pl → PA i = none → PL i = 0 ∧ PC i = 0) (ho : Rd w oo lo f) (hoi : oo = none → lo = 0 ∧ cp = 0) (hn : Rd w no ln h) (hni : no = none → ln = 0 ∧ cn = 0) :
    Calls Try.prog 4 #[.int .i64 k, .int .i64 r, .slice po pl pc, .int .i64 c, .slice oo lo cp, .slice no ln cn] w fun e w' => e = .returned (.bool true) ∧ Below w.heap.size w w' := by
  have HP : Hid (Lst w po pl PA PC PL P) := hp
  have HPI : Hid (∀ i, i < pl → PA i = none → PL i = 0 ∧ PC i = 0) := hpi
  have HO : Hid (Rd w oo lo f) := ho
  have HN : Hid (Rd w no ln h) := hn
  have HDI : Hid (∀ i, i < 2 → duo oo no i = none → duo lo ln i = 0 ∧ duo cp cn i = 0) := fun i hi e => by
    obtain rfl | rfl : i = 0 ∨ i = 1 := by omega
    · exact hoi e
    · exact hni e
  clear hp hpi ho hn hoi hni
  go_enter Try.func4, Try.ntmps4
  go_wp2_with fail
  refine (alive_any w).mono ?_
  rintro e w1 ⟨rfl, b1⟩
  replace HP : Hid (Lst w1 po pl PA PC PL P) := HP.out.below b1
  replace HO : Hid (Rd w1 oo lo f) := HO.out.below b1
  replace HN : Hid (Rd w1 no ln h) := HN.out.below b1
  go_wp2_with fail
  refine (much_any w1 po pl pc PA PC PL P HP.out).mono ?_
  rintro e w' ⟨rfl, hw'⟩
  obtain rfl := hw'.symm
  cases hf1 : fewB pl PL
  · go_wp2_with fail
    go_ret
    exact ⟨rfl, b1⟩
  have HMU := much_any (w1.alloc (.cells #[.slice oo lo cp, .slice no ln cn] 23)) (some ⟨w1.heap.size, 0, none⟩) 2 2 _ _ _ _ (lst_duo rfl oo no lo cp ln cn f h HO.out HN.out)
  go_wp2_with fail
  refine HMU.mono ?_
  rintro e w' ⟨rfl, hw'⟩
  obtain rfl := hw'.symm
  cases hf2 : fewB 2 (duo lo ln)
  · have ba := more b1 (.cells #[.slice oo lo cp, .slice no ln cn] 23)
    clear HMU
    go_wp2_with fail
    go_ret
    exact ⟨rfl, ba⟩
  obtain ⟨f1, f2⟩ := few_len hf1
  have f3 := (fewB_true hf2).2 0 (by omega)
  have f4 := (fewB_true hf2).2 1 (by omega)
  rw [duo_0] at f3
  rw [duo_1] at f4
  have HF2 : Hid (∀ i, i < pl → PL i ≤ 70000) := f2
  have HLB : Hid (lo ≤ 70000 ∧ ln ≤ 70000) := ⟨by omega, by omega⟩
  clear hf1 hf2 f2 f3 f4 HMU
  obtain ⟨wa, hwa⟩ : ∃ wa, wa = w1.alloc (.cells #[.slice oo lo cp, .slice no ln cn] 23) := ⟨_, rfl⟩
  rw [← hwa]
  have ba : Below w1.heap.size w1 wa := by rw [hwa]; exact below_alloc _ _
  replace HP : Hid (Lst wa po pl PA PC PL P) := HP.out.below ba
  replace HO : Hid (Rd wa oo lo f) := HO.out.below ba
  replace HN : Hid (Rd wa no ln h) := HN.out.below ba
  replace b1 := below_step b1 ba b1.size
  clear hwa ba
  go_wp2_with fail
  refine (twin_any wa po pl pc PA PC PL P (by omega) HP.out HPI.out (fun i hi => by have := HF2.out i hi; omega)).mono ?_
  rintro e w2 ⟨xa, xc, XT, XU, rfl, hx, b2⟩
  have HX : Hid (Lst w2 xa pl XT XU PL P) := hx.lst
  have HXN : Hid (xa = none → pl = 0 ∧ xc = 0) := (by
    rintro rfl
    rcases hx.out.2 with ⟨e, _⟩ | ⟨g, c, cur, e, _⟩
    · cases e; exact ⟨rfl, rfl⟩
    · cases e)
  replace HP : Hid (Lst w2 po pl PA PC PL P) := HP.out.below b2
  replace HO : Hid (Rd w2 oo lo f) := HO.out.below b2
  replace HN : Hid (Rd w2 no ln h) := HN.out.below b2
  replace b1 := below_step b1 b2 b1.size
  clear hx b2
  have HTW := twin_any (w2.alloc (.cells #[.slice oo lo cp, .slice no ln cn] 23)) (some ⟨w2.heap.size, 0, none⟩) 2 2 _ _ _ _ (by omega) (lst_duo rfl oo no lo cp ln cn f h HO.out HN.out) HDI.out (fun i hi => by
    have := HLB.out
    obtain rfl | rfl : i = 0 ∨ i = 1 := by omega
    · rw [duo_0]; omega
    · rw [duo_1]; omega)
  go_wp2_with fail
  refine HTW.mono ?_
  rintro e w3 ⟨ya, yc, YT, YU, rfl, hy, b3⟩
  replace b3 : Below w2.heap.size w2 w3 := below_step (below_alloc w2 _) b3 (by simp)
  have HY0 : Hid (Lst w3 ya 2 YT YU (duo lo ln) (duo f h)) := hy.lst
  have HX0 : Hid (Lst w3 xa pl XT XU PL P) := HX.out.below b3
  have HP0 : Hid (Lst w3 po pl PA PC PL P) := HP.out.below b3
  have HO0 : Hid (Rd w3 oo lo f) := HO.out.below b3
  have HN0 : Hid (Rd w3 no ln h) := HN.out.below b3
  replace b1 := below_step b1 b3 b1.size
  obtain ⟨yb, oy, rfl, hcy⟩ := HY0.out.at_ (by omega)
  have y0 := hcy 0 (by omega)
  have y1 := hcy 1 (by omega)
  rw [duo_0, Nat.add_zero] at y0
  rw [duo_1] at y1
  have hry0 : Rd w3 (YT 0) lo f := HY0.out.rd 0 (by omega)
  have hry1 : Rd w3 (YT 1) ln h := HY0.out.rd 1 (by omega)
  have HR0 : Hid (Rd w3 (YT 0) lo f) := hry0
  have HOF : Hid (Calls Try.prog 9 #[.slice (YT 0) lo (YU 0), .slice (YT 1) ln (YU 1)] w3.drew (OneAns w3.drew (okOf lo ln) 40 lo (addF f h))) := Of_any w3.drew (YT 0) (YT 1) lo (YU 0) ln (YU 1) f h (hry0.below (below_drew _ w3)) (hry1.below (below_drew _ w3))
  clear hy b3 HX HP HO HN HTW hcy hry0 hry1
  obtain ⟨okd, hokd⟩ : ∃ ok, ok = okOf lo ln := ⟨_, rfl⟩
  obtain ⟨dn, hdn⟩ : ∃ dn, dn = lenB okd lo := ⟨_, rfl⟩
  obtain ⟨ed, hed⟩ : ∃ ed, ed = errB okd 40 := ⟨_, rfl⟩
  have hdn2 : dn ≤ 100000 := by rw [hdn]; exact lenB_le _ _ _ fun _ => by have := HLB.out; omega
  have HOF2 : Hid (Calls Try.prog 9 #[.slice (YT 0) lo (YU 0), .slice (YT 1) ln (YU 1)] w3.drew fun e w' => ∃ ao cap, e = .returned (.tuple #[.slice ao dn cap, .int .i64 ed]) ∧ RowSol w' w3.heap.size w'.heap.size ao dn cap (addF f h) ∧ Below w3.heap.size w3 w') := by
    refine HOF.out.mono ?_
    rintro e w' ⟨ao, cap, rfl, h1, h2⟩
    rw [← hokd, ← hdn] at h1 ⊢
    rw [← hed]
    exact ⟨ao, cap, rfl, h1, below_step (below_drew _ w3) h2 (Nat.le_refl _)⟩
  have HROF : Hid (∀ w5, Below w3.heap.size w3 w5 → Calls Try.prog 14 #[.slice oo lo cp, .slice no ln cn] w5 fun e w' => ∃ ao cap, e = .returned (.tuple #[.slice ao dn cap, .int .i64 ed]) ∧ Rd w' ao dn (addF f h) ∧ Below w5.heap.size w5 w') := fun w5 b5 => by
    refine (rOf_any w5 oo no lo cp ln cn f h (HO0.out.below b5) (HN0.out.below b5)).mono ?_
    rintro e w' ⟨ao, cap, rfl, h1, h2⟩
    rw [← hokd, ← hdn] at h1 ⊢
    rw [← hed]
    exact ⟨ao, cap, rfl, h1.rd, h2⟩
  clear HOF hokd hed hdn
  obtain ⟨okp, hokp⟩ : ∃ ok, ok = okAll k r pl PL 1 (fun _ => c) 1 (fun _ => lo) := ⟨_, rfl⟩
  obtain ⟨ep, hep⟩ : ∃ err, err = errB okp (errAll k r pl PL 1 (fun _ => c)) := ⟨_, rfl⟩
  obtain ⟨pn, hpn⟩ : ∃ pn, pn = lenB okp pl := ⟨_, rfl⟩
  have hpn2 : pn ≤ pl := by rw [hpn]; exact lenB_le _ _ _ fun _ => Nat.le_refl _
  obtain ⟨m, hm⟩ : ∃ m, m = PL 0 := ⟨_, rfl⟩
  have hmm : 0 < pn → m ≤ 100000 := fun h => by have := HF2.out 0 (by omega); omega
  have HPAR : Hid (∀ w4, Below w3.heap.size w3 w4 → Calls Try.prog 10 #[.int .i64 k, .int .i64 r, .slice xa pl xc, .int .i64 c, .slice (YT 0) lo (YU 0)] w4 fun e w' => ∃ ao cap, e = .returned (.tuple #[.slice ao pn cap, .int .i64 ep]) ∧ Ans w4 w' ao pn cap m (upd k.toNat 1 (fun _ => c) (fun _ => f) P) ∧ Below w4.heap.size w4 w') := fun w4 b4 => by
    have := Parity_any w4 k r xa pl xc XT XU PL P c (YT 0) lo (YU 0) f (HX0.out.below b4) HXN.out (HR0.out.below b4)
    rw [← hokp] at this
    refine this.mono ?_
    rintro e w' ⟨ao, cap, rfl, h1, h2⟩
    rw [← hpn] at h1 ⊢
    rw [← hep, hm]
    exact ⟨ao, cap, rfl, h1, h2⟩
  have HRPA : Hid (∀ w4, Below w3.heap.size w3 w4 → Calls Try.prog 15 #[.int .i64 k, .int .i64 r, .slice po pl pc, .int .i64 c, .slice oo lo cp] w4 fun e w' => ∃ ao cap, e = .returned (.tuple #[.slice ao pn cap, .int .i64 ep]) ∧ Ans w4 w' ao pn cap m (upd k.toNat 1 (fun _ => c) (fun _ => f) P) ∧ Below w4.heap.size w4 w') := fun w4 b4 => by
    have := rParity_any w4 k r po pl pc PA PC PL P c oo lo cp f (HP0.out.below b4) (HO0.out.below b4)
    rw [← hokp] at this
    refine this.mono ?_
    rintro e w' ⟨ao, cap, rfl, h1, h2⟩
    rw [← hpn] at h1 ⊢
    rw [← hep, hm]
    exact ⟨ao, cap, rfl, h1, h2⟩
  clear hokp hep hpn hm
  go_wp2
  go_region_held3 (fun w' => w'.cell? ⟨yb, oy, none⟩ = some (.slice (YT 0) lo (YU 0)) ∧ w'.cell? ⟨yb, oy + 1, none⟩ = some (.slice (YT 1) ln (YU 1))) (go_keep)
    ((go_at_call 9; refine HOF2.out.mono ?_; rintro e w4 ⟨da, dcp, rfl, hds, b4⟩; have s1 : w4.cell? ⟨yb, oy, none⟩ = some (.slice (YT 0) lo (YU 0)) := held y0 b4; have s2 : w4.cell? ⟨yb, oy + 1, none⟩ = some (.slice (YT 1) ln (YU 1)) := held y1 b4))
  have HDS : Hid (RowSol w4 w3.heap.size w4.heap.size da dn dcp (addF f h)) := hds
  have B4 : Hid (Below w3.heap.size w3 w4) := b4
  have hs4 := b4.size
  clear hds b4 s2 HOF2 y0 y1
  go_wp2_with fail
  refine (HPAR.out w4 B4.out).mono ?_
  rintro e w5 ⟨pa, pcp, rfl, hans, b5⟩
  have HSO : Hid (Sol w5 w4.heap.size w5.heap.size pa pn pcp m (upd k.toNat 1 (fun _ => c) (fun _ => f) P)) := hans.sol
  replace HDS : Hid (RowSol w5 w3.heap.size w4.heap.size da dn dcp (addF f h)) := HDS.out.below b5
  have B5 : Hid (Below w3.heap.size w3 w5) := below_step B4.out b5 hs4
  have hs45 := b5.size
  clear hans b5 s1 HPAR
  go_wp2_with fail
  refine (HROF.out w5 B5.out).mono ?_
  rintro e w6 ⟨d2, dc2, rfl, hd2, b6⟩
  have HD2 : Hid (Rd w6 d2 dn (addF f h)) := hd2
  replace HSO : Hid (Sol w6 w4.heap.size w5.heap.size pa pn pcp m (upd k.toNat 1 (fun _ => c) (fun _ => f) P)) := HSO.out.below b6
  replace HDS : Hid (RowSol w6 w3.heap.size w4.heap.size da dn dcp (addF f h)) := HDS.out.below b6
  have B6 : Hid (Below w3.heap.size w3 w6) := below_step B5.out b6 (by omega)
  have hs56 := b6.size
  clear hd2 b6 HROF
  go_wp2_with fail
  refine (HRPA.out w6 B6.out).mono ?_
  rintro e w7 ⟨pa2, pc2, rfl, hans2, b7⟩
  have HS2 : Hid (∃ A C, Lst w7 pa2 pn A C (fun _ => m) (upd k.toNat 1 (fun _ => c) (fun _ => f) P)) := hans2.lst
  replace HD2 : Hid (Rd w7 d2 dn (addF f h)) := HD2.out.below b7
  replace HSO : Hid (Sol w7 w4.heap.size w5.heap.size pa pn pcp m (upd k.toNat 1 (fun _ => c) (fun _ => f) P)) := HSO.out.below b7
  replace HDS : Hid (RowSol w7 w3.heap.size w4.heap.size da dn dcp (addF f h)) := HDS.out.below b7
  have B7 : Hid (Below w3.heap.size w3 w7) := below_step B6.out b7 (by omega)
  have hs67 := b7.size
  clear hans2 b7 HRPA
  have HSM := same1_any w7 da d2 dn dcp dc2 _ HDS.out.rd HD2.out
  go_wp2_with fail
  refine HSM.mono ?_
  rintro e w' ⟨rfl, hw'⟩
  obtain rfl := hw'.symm
  obtain ⟨PA1, PC1, hl1⟩ := HSO.out.lst
  obtain ⟨PA2, PC2, hl2⟩ := HS2.out
  have HSAME := same_k w7 pa pa2 pn pcp pc2 _ _ _ _ _ _ (by omega) hl1 hl2
  clear hl1 hl2 HSM HD2 HS2
  go_wp2_with fail
  refine HSAME.mono ?_
  rintro e w8 ⟨rfl, b8⟩
  replace HSO : Hid (Sol w8 w4.heap.size w5.heap.size pa pn pcp m (upd k.toNat 1 (fun _ => c) (fun _ => f) P)) := HSO.out.below b8
  replace HDS : Hid (RowSol w8 w3.heap.size w4.heap.size da dn dcp (addF f h)) := HDS.out.below b8
  have B8 : Hid (Below w3.heap.size w3 w8) := below_step B7.out b8 (by omega)
  have hs78 := b8.size
  clear b8 HSAME
  go_wp2_with fail
  refine (spoil_sol w8 w4.heap.size w5.heap.size pa pn pcp m _ (by omega) hmm HSO.out).mono ?_
  rintro e w9 ⟨rfl, k9⟩
  replace HDS : Hid (RowSol w9 w3.heap.size w4.heap.size da dn dcp (addF f h)) := HDS.out.keeps k9 (.inl (Nat.le_refl _))
  have KK : Hid (Keeps w3.heap.size w5.heap.size w8 w9) := k9.mono (by omega) (Nat.le_refl _)
  have hs89 := k9.size
  clear k9 HSO
  have HSP := spoil_one w9 w3.heap.size w4.heap.size dn dcp da (addF f h) hdn2 HDS.out (by omega)
  go_wp2_with fail
  refine HSP.mono ?_
  rintro e w10 ⟨rfl, k10⟩
  replace KK : Hid (Keeps w3.heap.size w5.heap.size w8 w10) := KK.out.trans (k10.mono (Nat.le_refl _) (by omega))
  have HX1 : Hid (Lst w10 xa pl XT XU PL P) := HX0.out.past (HX0.out.below B8.out) KK.out (Nat.le_refl _)
  have HY1 : Hid (Lst w10 (some ⟨yb, oy, none⟩) 2 YT YU (duo lo ln) (duo f h)) := HY0.out.past (HY0.out.below B8.out) KK.out (Nat.le_refl _)
  have HP1 : Hid (Lst w10 po pl PA PC PL P) := HP0.out.past (HP0.out.below B8.out) KK.out (Nat.le_refl _)
  have HO1 : Hid (Rd w10 oo lo f) := HO0.out.past (HO0.out.below B8.out) KK.out (Nat.le_refl _)
  have HN1 : Hid (Rd w10 no ln h) := HN0.out.past (HN0.out.below B8.out) KK.out (Nat.le_refl _)
  have B10 : Hid (Below w.heap.size w w10) := by
    have h48 := B8.out
    exact (below_step b1 h48 b1.size).trans (KK.out.below (by have := b1.size; have := h48.size; omega) b1.size)
  clear k10 KK HDS HSP HX0 HY0 HP0 HO0 HN0 b1
  have HS1 := same_k w10 xa po pl xc pc _ _ _ _ _ _ (by omega) HX1.out HP1.out
  go_wp2_with fail
  refine HS1.mono ?_
  rintro e w11 ⟨rfl, b11⟩
  have HS2 := same_k (w11.alloc (.cells #[.slice oo lo cp, .slice no ln cn] 23)) (some ⟨yb, oy, none⟩) (some ⟨w11.heap.size, 0, none⟩) 2 yc 2 _ _ _ _ _ _ (by omega) ((HY1.out.below b11).alloc _) (lst_duo rfl oo no lo cp ln cn f h (HO1.out.below b11) (HN1.out.below b11))
  have B11 : Hid (Below w.heap.size w w11) := below_step B10.out b11 B10.out.size
  clear HS1 b11
  go_wp2_with fail
  refine HS2.mono ?_
  rintro e w12 ⟨rfl, b12⟩
  have B12 : Hid (Below w.heap.size w w12) := below_step (more B11.out _) b12 (by have := B11.out.size; simp; omega)
  clear HS2 b12
  go_wp2_with fail
  go_ret
  exact ⟨by simp, B12.out⟩
end Go.Proofs.Ytgflgmkaaidfnaa
