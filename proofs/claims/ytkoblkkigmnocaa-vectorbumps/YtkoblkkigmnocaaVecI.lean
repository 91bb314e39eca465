/- The document's Bump, Join, Below and Unlike. -/
import Derived.Test.YtkoblkkigmnocaaVecH
namespace Go.Proofs.Ytkoblkkigmnocaa
open Go.RowKit

theorem owns_drew {w : World} {base e size n : Nat} {v : Value} {xs : List Value} (h : w.ownsRow base e size v n xs) : w.drew.ownsRow base e size v n xs := h
theorem news_drew (w : World) (xs : Array Value) (e : TypeId) : ∀ (j : Nat) u, xs.toList[j]? = some u → (w.alloc (.cells xs e)).drew.cell? ((⟨w.heap.size, 0, none⟩ : Addr).add j) = some u := fun j u h => World.news_of_block (w := w.alloc (.cells xs e)) (heap_alloc_new w _) j u h
set_option maxHeartbeats 1000000 in
set_option maxRecDepth 100000 in
theorem RBelow_any {k r c q : Int} {N W : Nat} {x : Int} (h : Par k r c q N W x) (w : World) (ao bo : Option Addr) (n ca m cb : Nat) (A B : Nat → Int) (hv : Vec w ao n ca A) (hv' : Vec w bo m cb B) (hn : n ≤ 1000) (hm : m ≤ 1000) (E : Int) (hE : er2 x N n A m B = E) :
    Calls Try.prog 26 #[.agg #[.int .i64 k, .int .i64 r, .int .i64 c, .int .i64 q], .slice ao n ca, .slice bo m cb] w (TellB w E (leB n A B)) := by
  have HC := fun w (hv : Vec w ao n ca A) (hv' : Vec w bo m cb B) => two_any h w ao bo n ca m cb A B hv hv' hn hm
  rw [hE] at HC
  have HV : Hid (Vec w ao n ca A) := hv
  have HV' : Hid (Vec w bo m cb B) := hv'
  clear hv hv' h
  obtain ⟨w0, hw0⟩ : ∃ w0, w0 = w.alloc (.cells #[.int .i64 k, .int .i64 r, .int .i64 c, .int .i64 q] 24) := ⟨_, rfl⟩
  have b0 : Below w.heap.size w w0 := by rw [hw0]; exact below_alloc _ _
  unfold TellB
  by_cases h1 : E = 0
  · subst h1
    obtain ⟨h2, h3⟩ := er2_of hE
    obtain ⟨rfl, rfl, h4⟩ := erV_of h2
    obtain ⟨_, rfl, h5⟩ := erV_of h3
    rw [show decide ((0 : Int) = 0) = true from rfl, Bool.true_and]
    clear hE h2 h3 h4 h5
    by_cases hall : ∀ i, i < m → A i ≤ B i
    · rw [show leB m A B = true from decide_eq_true hall]
      have HA : Hid (∀ i, i < m → A i ≤ B i) := hall
      clear hall
      go_enter Try.func26, Try.ntmps26
      go_wp2_with fail
      rw [← hw0]
      refine (HC _ (HV.out.below b0) (HV'.out.below b0)).mono ?_
      rintro e wa ⟨rfl, ha⟩
      have HB : Hid (Below w.heap.size w wa) := below_then b0 ha
      clear hw0 ha b0 HC
      go_wp2_with fail
      go_loopw [9] (fun x wr => ∃ i : Nat, i ≤ m ∧ x = .int .i64 (i : Int) ∧ Hid (Below w.heap.size w wr)) (fun x _ => m - (intOf x).toNat)
      case atStart => exact ⟨0, Nat.zero_le _, rfl, HB.out⟩
      case round =>
        obtain ⟨i, hi, rfl, hbel⟩ := hrel
        by_cases hlt : i < m
        · obtain ⟨b, off, rfl, hc⟩ := (HV.out.below hbel.out).rd (by omega)
          obtain ⟨b', off', rfl, hc'⟩ := (HV'.out.below hbel.out).rd (by omega)
          have ck := hc i hlt
          have ck' := hc' i hlt
          have hd : decide (B i < A i) = false := decide_eq_false (by have := HA.out i hlt; omega)
          have i1 : (0 : Int) ≤ (i : Int) := by omega
          have i2 : (i : Int) < (m : Int) := by omega
          clear hc hc'
          go_wp2
          go_quiet (fail)
          go_wp2
          go_roundw
          case rel => exact ⟨i + 1, by omega, by go_num, hbel.out.trans (below_drewN _ _ nq)⟩
          case measure => simp [intOf]; omega
        · go_wp2
          go_ret2
          exact ⟨rfl, hbel.out⟩
    · rw [show leB m A B = false from decide_eq_false hall]
      obtain ⟨p, hp, hne, heq⟩ := first_not hall
      have HE : Hid (∀ i, i < p → A i ≤ B i) := heq
      have HN : Hid (¬ A p ≤ B p) := hne
      clear hall hne heq
      go_enter Try.func26, Try.ntmps26
      go_wp2_with fail
      rw [← hw0]
      refine (HC _ (HV.out.below b0) (HV'.out.below b0)).mono ?_
      rintro e wa ⟨rfl, ha⟩
      have HB : Hid (Below w.heap.size w wa) := below_then b0 ha
      clear hw0 ha b0 HC
      go_wp2_with fail
      go_loopw [9] (fun x wr => ∃ i : Nat, i ≤ p ∧ x = .int .i64 (i : Int) ∧ Hid (Below w.heap.size w wr)) (fun x _ => m - (intOf x).toNat)
      case atStart => exact ⟨0, Nat.zero_le _, rfl, HB.out⟩
      case round =>
        obtain ⟨i, hi, rfl, hbel⟩ := hrel
        have hlt : i < m := by omega
        obtain ⟨b, off, rfl, hc⟩ := (HV.out.below hbel.out).rd (by omega)
        obtain ⟨b', off', rfl, hc'⟩ := (HV'.out.below hbel.out).rd (by omega)
        have ck := hc i hlt
        have ck' := hc' i hlt
        have i1 : (0 : Int) ≤ (i : Int) := by omega
        have i2 : (i : Int) < (m : Int) := by omega
        clear hc hc'
        by_cases hiq : i < p
        · have hd : decide (B i < A i) = false := decide_eq_false (by have := HE.out i hiq; omega)
          go_wp2
          go_quiet (fail)
          go_wp2
          go_roundw
          case rel => exact ⟨i + 1, by omega, by go_num, hbel.out.trans (below_drewN _ _ nq)⟩
          case measure => simp [intOf]; omega
        · obtain rfl : i = p := by omega
          have hd : decide (B i < A i) = true := decide_eq_true (by have := HN.out; omega)
          go_wp2
          go_quiet (fail)
          go_wp2
          go_ret2
          exact ⟨rfl, hbel.out.trans (below_drewN _ _ nq)⟩
  · have hne : (E != 0) = true := by simpa using h1
    rw [decide_eq_false h1, Bool.false_and]
    clear hE h1
    go_enter Try.func26, Try.ntmps26
    go_wp2_with fail
    rw [← hw0]
    refine (HC _ (HV.out.below b0) (HV'.out.below b0)).mono ?_
    rintro e wa ⟨rfl, ha⟩
    have hb := below_then b0 ha
    clear hw0
    go_wp2_with fail
    go_ret2
    exact ⟨rfl, hb⟩
set_option maxHeartbeats 1000000 in
set_option maxRecDepth 100000 in
theorem RUnlike_any {k r c q : Int} {N W : Nat} {x : Int} (h : Par k r c q N W x) (w : World) (ao bo : Option Addr) (n ca m cb : Nat) (A B : Nat → Int) (hv : Vec w ao n ca A) (hv' : Vec w bo m cb B) (hn : n ≤ 1000) (hm : m ≤ 1000) (E : Int) (hE : er2 x N n A m B = E) :
    Calls Try.prog 27 #[.agg #[.int .i64 k, .int .i64 r, .int .i64 c, .int .i64 q], .slice ao n ca, .slice bo m cb] w (Ans w E (cnt (dif A B) n) (sel (dif A B) n)) := by
  have HC := fun w (hv : Vec w ao n ca A) (hv' : Vec w bo m cb B) => two_any h w ao bo n ca m cb A B hv hv' hn hm
  rw [hE] at HC
  have HV : Hid (Vec w ao n ca A) := hv
  have HV' : Hid (Vec w bo m cb B) := hv'
  clear hv hv' h
  obtain ⟨w0, hw0⟩ : ∃ w0, w0 = w.alloc (.cells #[.int .i64 k, .int .i64 r, .int .i64 c, .int .i64 q] 24) := ⟨_, rfl⟩
  have b0 : Below w.heap.size w w0 := by rw [hw0]; exact below_alloc _ _
  obtain ⟨i0, hi, hi0, hi1, hi2⟩ := info_parts info3
  by_cases h1 : E = 0
  · subst h1
    obtain ⟨h2, h3⟩ := er2_of hE
    obtain ⟨rfl, rfl, h4⟩ := erV_of h2
    obtain ⟨_, rfl, h5⟩ := erV_of h3
    unfold Ans
    rw [lenE_zero]
    clear hE h2 h3 h4 h5
    have HDF : Hid (∀ i, dif A B i = decide (A i ≠ B i)) := fun _ => rfl
    generalize dif A B = F at *
    go_enter Try.func27, Try.ntmps27
    go_wp2_with fail
    rw [← hw0]
    refine (HC _ (HV.out.below b0) (HV'.out.below b0)).mono ?_
    rintro e wb ⟨rfl, ha⟩
    have HWB : Hid (Below w.heap.size w wb) := below_then b0 ha
    clear hw0 ha b0 HC
    go_wp2_with fail
    go_loopw [9, 10] (fun v x wr => ∃ i : Nat, i ≤ m ∧ x = .int .i64 i ∧ (∃ ao cap, v = .slice ao (cnt F i) cap) ∧ Hid (wr.ownsRow wb.heap.size 3 1 v (cnt F i) (zOf (cnt F i) (sel F i))) ∧ Hid (Below wb.heap.size wb wr)) (fun _ x _ => m - (intOf x).toNat)
    case atStart => exact ⟨0, Nat.zero_le _, rfl, ⟨none, 0, rfl⟩, World.ownsRow_nil _ _ _ _, Below.refl _ _⟩
    case round =>
      obtain ⟨i, him, rfl, ⟨ro, cap, rfl⟩, hown, hbel⟩ := hrel
      by_cases hlt : i < m
      · have hbw := below_then HWB.out hbel.out
        obtain ⟨b, off, rfl, hc⟩ := (HV.out.below hbw).rd (by omega)
        obtain ⟨b', off', rfl, hc'⟩ := (HV'.out.below hbw).rd (by omega)
        have ck := hc i hlt
        have ck' := hc' i hlt
        have i1 : (0 : Int) ≤ (i : Int) := by omega
        have i2 : (i : Int) < (m : Int) := by omega
        clear hc hc' hbw
        cases hf : F i
        · have hd : (A i != B i) = false := by rw [HDF.out i] at hf; simpa using hf
          have HS : Hid (cnt F (i + 1) = cnt F i ∧ sel F (i + 1) = sel F i) := ⟨cnt_no hf, sel_no hf⟩
          clear hf
          go_wp2
          go_quiet (fail)
          go_wp2
          go_roundw
          case rel => exact ⟨i + 1, by omega, by go_num, ⟨ro, cap, by rw [HS.out.1]⟩, by rw [HS.out.1, HS.out.2]; exact hown.out, hbel.out.trans (below_drewN _ _ nq)⟩
          case measure => simp [intOf]; omega
        · have hd : (A i != B i) = true := by rw [HDF.out i] at hf; simpa using hf
          obtain ⟨ct, hct⟩ : ∃ ct, ct = cnt F i := ⟨_, rfl⟩
          obtain ⟨XS, hXS⟩ : ∃ XS, XS = zOf ct (sel F i) := ⟨_, rfl⟩
          have hws := hbel.out.size
          have hcti : ct ≤ i := by rw [hct]; exact cnt_le F i
          have HOW : Hid (∀ q o, ((wr.drewN q).alloc o).ownsRow wb.heap.size 3 1 (.slice ro ct cap) ct XS) := fun q o => by rw [hXS, hct]; exact World.ownsRow.alloc (w := wr.drewN q) hown.out o
          have HBW : Hid (∀ q, Below wb.heap.size wb (wr.drewN q)) := fun q => hbel.out.trans (below_drewN _ _ q)
          have HXS : Hid (XS ++ [.int .i64 (i : Int)] = zOf (cnt F (i + 1)) (sel F (i + 1))) := by show _ = _; rw [cnt_yes hf, sel_yes hf, zOf_put, hXS, hct]
          have HCT : Hid (cnt F (i + 1) = ct + 1) := by show _ = _; rw [cnt_yes hf, hct]
          rw [← hct]
          clear hf hct hXS hown
          go_wp2
          go_quiet (fail)
          have HOW2 := HOW.out nq
          have HBW2 := HBW.out nq
          have hws2 : wb.heap.size ≤ (wr.drewN nq).heap.size := hws
          generalize wr.drewN nq = wz at *
          have HOW3 : Hid (∀ o, (wz.alloc o).ownsRow wb.heap.size 3 1 (.slice ro ct cap) ct XS) := HOW2
          have HBW3 : Hid (Below wb.heap.size wb wz) := HBW2
          clear HOW2 HBW2 HOW HBW ck ck' hbel
          go_wp2_with (at_builtin; refine wpList_append_lies _ (by rfl) (.tmp 33) (.tmp 35) 26 (by rfl) wb.heap.size 3 i0 (.int .i64 0) 1 8 Try.underlying26 hi hi0 hi1 hi2 (by rfl) (by decide) (.slice ro ct cap) ct XS (by rfl) (HOW3.out _) ⟨wz.heap.size, 0, none⟩ 1 1 [.int .i64 (i : Int)] (by rfl) (by rfl) (World.news_of_block (heap_alloc_new wz _)) (by simp [Value.oneCell']) (by decide) (by unfold maxLen; omega) (by omega) (by simp; omega) (wz.heap.size + 1) (by simp) ?_; intro g5 cap5 w5 hown5 hgrow5 _ _
                       have HO5 : Hid (w5.ownsRow wb.heap.size 3 1 (.slice (some ⟨g5, 0, none⟩) (ct + 1) cap5) (ct + 1) (XS ++ [.int .i64 (i : Int)])) := hown5
                       have B5 : Hid (Below wb.heap.size wb w5) := (HBW3.out.alloc hws2 _).grown hgrow5 (by simp; omega) (fun q hq => ((HOW3.out (.cells #[] 3)).lt q hq).1)
                       clear hown5 hgrow5)
          go_roundw
          case rel => exact ⟨i + 1, by omega, by go_num, ⟨_, _, by rw [HCT.out]⟩, by rw [← HXS.out, HCT.out]; exact HO5.out, B5.out⟩
          case measure => simp [intOf]; omega
      · obtain rfl : i = m := by omega
        go_wp2
        go_ret2
        exact ⟨_, _, rfl, Own.mono (B := wb.heap.size) hown.out HWB.out.size, below_then HWB.out hbel.out⟩
  · have hne : (E != 0) = true := by simpa using h1
    unfold Ans
    rw [lenE_ne _ h1]
    clear hE h1
    go_enter Try.func27, Try.ntmps27
    go_wp2_with fail
    rw [← hw0]
    refine (HC _ (HV.out.below b0) (HV'.out.below b0)).mono ?_
    rintro e wa ⟨rfl, ha⟩
    have hb := below_then b0 ha
    clear hw0
    go_wp2_with fail
    go_ret2
    exact ⟨_, _, rfl, own_nil _ _ _, hb⟩
set_option maxHeartbeats 1000000 in
set_option maxRecDepth 100000 in
theorem RJoin_any {k r c q : Int} {N W : Nat} {x : Int} (h : Par k r c q N W x) (w : World) (ao bo : Option Addr) (n ca m cb : Nat) (A B : Nat → Int) (hv : Vec w ao n ca A) (hv' : Vec w bo m cb B) (hn : n ≤ 1000) (hm : m ≤ 1000) (E : Int) (hE : er2 x N n A m B = E) :
    Calls Try.prog 25 #[.agg #[.int .i64 k, .int .i64 r, .int .i64 c, .int .i64 q], .slice ao n ca, .slice bo m cb] w (Ans w E n (joi A B)) := by
  have HC := fun w (hv : Vec w ao n ca A) (hv' : Vec w bo m cb B) => two_any h w ao bo n ca m cb A B hv hv' hn hm
  rw [hE] at HC
  have HV : Hid (Vec w ao n ca A) := hv
  have HV' : Hid (Vec w bo m cb B) := hv'
  clear hv hv' h
  obtain ⟨w0, hw0⟩ : ∃ w0, w0 = w.alloc (.cells #[.int .i64 k, .int .i64 r, .int .i64 c, .int .i64 q] 24) := ⟨_, rfl⟩
  have b0 : Below w.heap.size w w0 := by rw [hw0]; exact below_alloc _ _
  obtain ⟨i0, hi, hi0, hi1, hi2⟩ := info_parts info3
  by_cases h1 : E = 0
  · subst h1
    obtain ⟨h2, h3⟩ := er2_of hE
    obtain ⟨rfl, rfl, h4⟩ := erV_of h2
    obtain ⟨_, rfl, h5⟩ := erV_of h3
    unfold Ans
    rw [lenE_zero]
    clear hE h2 h3 h4 h5
    have HJ : Hid (∀ i, joi A B i = gr (A i) (B i)) := fun _ => rfl
    generalize joi A B = F at *
    go_enter Try.func25, Try.ntmps25
    go_wp2_with fail
    rw [← hw0]
    refine (HC _ (HV.out.below b0) (HV'.out.below b0)).mono ?_
    rintro e wb ⟨rfl, ha⟩
    have HWB : Hid (Below w.heap.size w wb) := below_then b0 ha
    clear hw0 ha b0 HC
    go_wp2_with fail
    go_loopw [9, 10] (fun v x wr => ∃ i : Nat, i ≤ m ∧ x = .int .i64 i ∧ (∃ ao cap, v = .slice ao i cap) ∧ Hid (wr.ownsRow wb.heap.size 3 1 v i (zOf i F)) ∧ Hid (Below wb.heap.size wb wr)) (fun _ x _ => m - (intOf x).toNat)
    case atStart => exact ⟨0, Nat.zero_le _, rfl, ⟨none, 0, rfl⟩, World.ownsRow_nil _ _ _ _, Below.refl _ _⟩
    case round =>
      obtain ⟨i, him, rfl, ⟨ro, cap, rfl⟩, hown, hbel⟩ := hrel
      by_cases hlt : i < m
      · obtain ⟨b, off, rfl, hc⟩ := (HV.out.below HWB.out).rd (by omega)
        obtain ⟨b', off', rfl, hc'⟩ := (HV'.out.below HWB.out).rd (by omega)
        have S0 := hc i hlt
        have S0' := hc' i hlt
        have ck := held S0 hbel.out
        have ck' := held S0' hbel.out
        have SH : Hid (∀ w', Below wb.heap.size wb w' → w'.cell? ⟨b, off + i, none⟩ = some (.int .i64 (A i)) ∧ w'.cell? ⟨b', off' + i, none⟩ = some (.int .i64 (B i))) := fun w' hb => ⟨held S0 hb, held S0' hb⟩
        obtain ⟨XS, hXS⟩ : ∃ XS, XS = zOf i F := ⟨_, rfl⟩
        have hws := hbel.out.size
        have HOW : Hid (∀ o, (wr.alloc o).ownsRow wb.heap.size 3 1 (.slice ro i cap) i XS) := fun o => by rw [hXS]; exact World.ownsRow.alloc hown.out o
        have i1 : (0 : Int) ≤ (i : Int) := by omega
        have i2 : (i : Int) < (m : Int) := by omega
        have HFI : Hid (XS ++ [.int .i64 (F i)] = zOf (i + 1) F) := by show _ = _; rw [zOf_succ, hXS]
        have hF := HJ.out i
        clear hc hc' S0 S0' hXS hown
        by_cases hg : A i < B i
        · have HFV : Hid (F i = B i) := by show _ = _; rw [hF]; unfold gr; rw [if_pos hg]
          clear hF
          go_wp2
          go_region_held3 (fun w' => w'.cell? ⟨b, off + i, none⟩ = some (.int .i64 (A i)) ∧ w'.cell? ⟨b', off' + i, none⟩ = some (.int .i64 (B i))) (go_keep)
            ((refine Go.step_append_lies _ (by rfl) (.tmp 24) (.tmp 34) 26 (by rfl) wb.heap.size 3 i0 (.int .i64 0) 1 8 Try.underlying26 hi hi0 hi1 hi2 (by rfl) (by decide) (.slice ro i cap) i XS (by simp [Act.eval]) (owns_drew (HOW.out _)) ⟨wr.heap.size, 0, none⟩ 1 1 [.int .i64 (B i)] (by simp [Act.eval]) (by rfl) (news_drew wr #[.int .i64 (B i)] 3) (by simp [Value.oneCell']) (by decide) (by unfold maxLen; omega) (by omega) (by show _ ≤ (wr.alloc _).heap.size; simp; omega) (wr.heap.size + 1) (by show (wr.alloc _).heap.size = _; simp) ?_; intro g2 cap2 w2 hown2 hgrow2 _ _; have HB2 : Hid (Below wb.heap.size wb w2) := ((hbel.out.alloc hws _).drew).grown hgrow2 (by show _ ≤ (wr.alloc _).heap.size; simp; omega) (fun r hr => ((HOW.out (.cells #[] 3)).lt r hr).1); obtain ⟨q0, q1⟩ := SH.out _ HB2.out))
          have HO5 : Hid (w2.ownsRow wb.heap.size 3 1 (.slice (some ⟨g2, 0, none⟩) (i + 1) cap2) (i + 1) (XS ++ [.int .i64 (F i)])) := by rw [HFV.out]; exact hown2
          clear hown2 hgrow2
          go_wp2
          go_roundw
          case rel => exact ⟨i + 1, by omega, by go_num, ⟨_, _, rfl⟩, by rw [← HFI.out]; exact HO5.out, HB2.out⟩
          case measure => simp [intOf]; omega
        · have HFV : Hid (F i = if A i < B i then B i else A i) := hF
          clear hF hg
          go_wp2
          go_region_held3 (fun w' => w'.cell? ⟨b, off + i, none⟩ = some (.int .i64 (A i)) ∧ w'.cell? ⟨b', off' + i, none⟩ = some (.int .i64 (B i))) (go_keep)
            ((refine Go.step_append_lies _ (by rfl) (.tmp 24) (.tmp 34) 26 (by rfl) wb.heap.size 3 i0 (.int .i64 0) 1 8 Try.underlying26 hi hi0 hi1 hi2 (by rfl) (by decide) (.slice ro i cap) i XS (by simp [Act.eval]) (owns_drew (HOW.out _)) ⟨wr.heap.size, 0, none⟩ 1 1 [.int .i64 (if A i < B i then B i else A i)] (by simp [Act.eval]) (by rfl) (news_drew wr #[.int .i64 (if A i < B i then B i else A i)] 3) (by simp [Value.oneCell']) (by decide) (by unfold maxLen; omega) (by omega) (by show _ ≤ (wr.alloc _).heap.size; simp; omega) (wr.heap.size + 1) (by show (wr.alloc _).heap.size = _; simp) ?_; intro g2 cap2 w2 hown2 hgrow2 _ _; have HB2 : Hid (Below wb.heap.size wb w2) := ((hbel.out.alloc hws _).drew).grown hgrow2 (by show _ ≤ (wr.alloc _).heap.size; simp; omega) (fun r hr => ((HOW.out (.cells #[] 3)).lt r hr).1); obtain ⟨q0, q1⟩ := SH.out _ HB2.out))
          have HO5 : Hid (w2.ownsRow wb.heap.size 3 1 (.slice (some ⟨g2, 0, none⟩) (i + 1) cap2) (i + 1) (XS ++ [.int .i64 (F i)])) := by rw [HFV.out]; exact hown2
          clear hown2 hgrow2
          go_wp2
          go_roundw
          case rel => exact ⟨i + 1, by omega, by go_num, ⟨_, _, rfl⟩, by rw [← HFI.out]; exact HO5.out, HB2.out⟩
          case measure => simp [intOf]; omega
      · obtain rfl : i = m := by omega
        go_wp2
        go_ret2
        exact ⟨_, _, rfl, Own.mono (B := wb.heap.size) hown.out HWB.out.size, below_then HWB.out hbel.out⟩
  · have hne : (E != 0) = true := by simpa using h1
    unfold Ans
    rw [lenE_ne _ h1]
    clear hE h1
    go_enter Try.func25, Try.ntmps25
    go_wp2_with fail
    rw [← hw0]
    refine (HC _ (HV.out.below b0) (HV'.out.below b0)).mono ?_
    rintro e wa ⟨rfl, ha⟩
    have hb := below_then b0 ha
    clear hw0
    go_wp2_with fail
    go_ret2
    exact ⟨_, _, rfl, own_nil _ _ _, hb⟩
set_option maxHeartbeats 2000000 in
set_option maxRecDepth 100000 in
theorem RBump_any {k r c q : Int} {N W : Nat} {x : Int} (h : Par k r c q N W x) (w : World) (ao bo : Option Addr) (n ca m cb : Nat) (R C : Nat → Int) (v : Int) (hv : Vec w ao n ca R) (hv' : Vec w bo m cb C) (hn : n ≤ 1000) (hm : m ≤ 1000) (E : Int) (hE : erB x N n R m C v = E) :
    Calls Try.prog 19 #[.agg #[.int .i64 k, .int .i64 r, .int .i64 c, .int .i64 q], .slice ao n ca, .slice bo m cb, .int .i64 v] w (Ans w E n (bmp C v R m)) := by
  have HC := fun w (hv : Vec w ao n ca R) => RVCheck_any h w ao n ca R hv hn
  have HN := fun w => Version_any v w
  have hs := h.some
  have HV : Hid (Vec w ao n ca R) := hv
  have HV' : Hid (Vec w bo m cb C) := hv'
  clear hv hv' h
  obtain ⟨w0, hw0⟩ : ∃ w0, w0 = w.alloc (.cells #[.int .i64 k, .int .i64 r, .int .i64 c, .int .i64 q] 24) := ⟨_, rfl⟩
  have b0 : Below w.heap.size w w0 := by rw [hw0]; exact below_alloc _ _
  obtain ⟨E1, hE1⟩ : ∃ E1, E1 = erV x N n R := ⟨_, rfl⟩
  rw [← hE1] at HC
  unfold Ans
  by_cases h1 : E1 = 0
  · subst h1
    obtain ⟨rfl, rfl, h4⟩ := erV_of hE1.symm
    have hn1 : 1 ≤ n := hs rfl
    unfold erB at hE
    rw [if_pos hE1.symm] at hE
    clear hE1 hs h4
    by_cases h2 : n < m
    · rw [if_pos h2] at hE
      subst hE
      rw [lenE_ne n (show (20 : Int) ≠ 0 by decide)]
      go_enter Try.func19, Try.ntmps19
      go_wp2_with fail
      rw [← hw0]
      refine (HC _ (HV.out.below b0)).mono ?_
      rintro e wa ⟨rfl, ha⟩
      have hb := below_then b0 ha
      clear hw0
      go_wp2_with fail
      go_ret2
      exact ⟨_, _, rfl, own_nil _ _ _, hb⟩
    · rw [if_neg h2] at hE
      cases h3 : celB n m C
      · rw [h3, if_neg (by decide)] at hE
        subst hE
        rw [lenE_ne n (show (2 : Int) ≠ 0 by decide)]
        obtain ⟨p, hp, hne, heq⟩ := first_not (of_decide_eq_false h3)
        have HE : Hid (∀ j, j < p → 0 ≤ C j ∧ C j < (n : Int)) := heq
        have HNE : Hid (¬ (0 ≤ C p ∧ C p < (n : Int))) := hne
        clear h3 hne heq
        go_enter Try.func19, Try.ntmps19
        go_wp2_with fail
        rw [← hw0]
        refine (HC _ (HV.out.below b0)).mono ?_
        rintro e wa ⟨rfl, ha⟩
        have HB : Hid (Below w.heap.size w wa) := below_then b0 ha
        have HVA : Hid (Vec wa ao n ca R) := HV.out.below HB.out
        have HOA : Hid (wa.ownsRow wa.heap.size 3 1 (.slice none 0 0) 0 []) := World.ownsRow_nil _ _ _ _
        have hsz := HB.out.size
        clear hw0 ha b0 HC
        go_wp2_with (at_builtin; refine wpList_append_first (by rfl) (.tmp 24) (.tmp 25) (by rfl) wa.heap.size n ca none ao R (by rfl) (by rfl) HOA.out HVA.out hn (Nat.le_refl _) ?_; intro ro cap w5 HO5 B5)
        obtain ⟨g, rfl, hg1, _⟩ := HO5.out.at_ hn1
        have HO6 : Hid (Own wa.heap.size w5 (some ⟨g, 0, none⟩) n cap R) := HO5
        have HB6 : Hid (Below w.heap.size w w5) := below_then HB.out B5.out
        clear HO5 B5 HB HVA HOA
        go_loopw [12] (fun x wr => ∃ j : Nat, j ≤ p ∧ x = .int .i64 (j : Int) ∧ Hid (Own wa.heap.size wr (some ⟨g, 0, none⟩) n cap (bmp C v R j)) ∧ Hid (Below w.heap.size w wr)) (fun x _ => m - (intOf x).toNat)
        case atStart => exact ⟨0, Nat.zero_le _, rfl, HO6.out, HB6.out⟩
        case round =>
          obtain ⟨j, hj, rfl, hown, hbel⟩ := hrel
          have hlt : j < m := by omega
          obtain ⟨b, off, rfl, hcc⟩ := (HV'.out.below hbel.out).rd (by omega)
          have ck := hcc j hlt
          have i1 : (0 : Int) ≤ (j : Int) := by omega
          have i2 : (j : Int) < (m : Int) := by omega
          by_cases hjp : j < p
          · obtain ⟨hc0, hc1⟩ := HE.out j hjp
            obtain ⟨cj, hcj⟩ := Int.eq_ofNat_of_zero_le hc0
            have HCJ : Hid (C j = (cj : Int)) := hcj
            rw [hcj] at ck hc1
            have i3 : (0 : Int) ≤ (cj : Int) := by omega
            have hcn : cj < n := by omega
            have d1 := hown.out.cell hcn
            have z1 := hown.out.free cj
            have HO2 : Hid (Own wa.heap.size (wr.setCell ⟨g, cj, none⟩ (.int .i64 v)) (some ⟨g, 0, none⟩) n cap (bmp C v R (j + 1))) := (hown.out.set cj v).congr (fun i _ => bmp_step HCJ.out i)
            have hgl : w.heap.size ≤ g := by omega
            have HB2 : Hid (Below w.heap.size w (wr.setCell ⟨g, cj, none⟩ (.int .i64 v))) := hbel.out.setCell hgl _
            clear hcc hcj hc0
            go_wp2
            go_roundw
            case rel => exact ⟨j + 1, by omega, by go_num, HO2.out, HB2.out⟩
            case measure => simp [intOf]; omega
          · obtain rfl : j = p := by omega
            have hne := HNE.out
            clear hcc
            by_cases hz : C j < 0
            · go_wp2
              go_ret2
              exact ⟨_, _, rfl, own_nil _ _ _, hbel.out⟩
            · have hz2 : (n : Int) ≤ C j := by omega
              go_wp2
              go_ret2
              exact ⟨_, _, rfl, own_nil _ _ _, hbel.out⟩
      · rw [h3, if_pos rfl] at hE
        have hcb : ∀ j, j < m → 0 ≤ C j ∧ C j < (n : Int) := of_decide_eq_true h3
        have HCB : Hid (∀ j, j < m → 0 ≤ C j ∧ C j < (n : Int)) := hcb
        clear hcb h3
        cases h5 : verB v
        all_goals (
          rw [h5] at hE HN
          first
            | (rw [if_neg (by decide)] at hE; subst hE; rw [lenE_ne n (show (70 : Int) ≠ 0 by decide)])
            | (rw [if_pos rfl] at hE; subst hE; rw [lenE_zero])
          clear h5
          go_enter Try.func19, Try.ntmps19
          go_wp2_with fail
          rw [← hw0]
          refine (HC _ (HV.out.below b0)).mono ?_
          rintro e wa ⟨rfl, ha⟩
          have HB : Hid (Below w.heap.size w wa) := below_then b0 ha
          have HVA : Hid (Vec wa ao n ca R) := HV.out.below HB.out
          have HOA : Hid (wa.ownsRow wa.heap.size 3 1 (.slice none 0 0) 0 []) := World.ownsRow_nil _ _ _ _
          have hsz := HB.out.size
          clear hw0 ha b0 HC
          go_wp2_with (at_builtin; refine wpList_append_first (by rfl) (.tmp 24) (.tmp 25) (by rfl) wa.heap.size n ca none ao R (by rfl) (by rfl) HOA.out HVA.out hn (Nat.le_refl _) ?_; intro ro cap w5 HO5 B5)
          obtain ⟨g, rfl, hg1, _⟩ := HO5.out.at_ hn1
          have HO6 : Hid (Own wa.heap.size w5 (some ⟨g, 0, none⟩) n cap R) := HO5
          have HB6 : Hid (Below w.heap.size w w5) := below_then HB.out B5.out
          clear HO5 B5 HB HVA HOA
          go_loopw [12] (fun x wr => ∃ j : Nat, j ≤ m ∧ x = .int .i64 (j : Int) ∧ Hid (Own wa.heap.size wr (some ⟨g, 0, none⟩) n cap (bmp C v R j)) ∧ Hid (Below w.heap.size w wr)) (fun x _ => m - (intOf x).toNat)
          case atStart => exact ⟨0, Nat.zero_le _, rfl, HO6.out, HB6.out⟩
          case round =>
            obtain ⟨j, hj, rfl, hown, hbel⟩ := hrel
            by_cases hlt : j < m
            · obtain ⟨b, off, rfl, hcc⟩ := (HV'.out.below hbel.out).rd (by omega)
              have ck := hcc j hlt
              have i1 : (0 : Int) ≤ (j : Int) := by omega
              have i2 : (j : Int) < (m : Int) := by omega
              obtain ⟨hc0, hc1⟩ := HCB.out j hlt
              obtain ⟨cj, hcj⟩ := Int.eq_ofNat_of_zero_le hc0
              have HCJ : Hid (C j = (cj : Int)) := hcj
              rw [hcj] at ck hc1
              have i3 : (0 : Int) ≤ (cj : Int) := by omega
              have hcn : cj < n := by omega
              have d1 := hown.out.cell hcn
              have z1 := hown.out.free cj
              have HO2 : Hid (Own wa.heap.size (wr.setCell ⟨g, cj, none⟩ (.int .i64 v)) (some ⟨g, 0, none⟩) n cap (bmp C v R (j + 1))) := (hown.out.set cj v).congr (fun i _ => bmp_step HCJ.out i)
              have hgl : w.heap.size ≤ g := by omega
              have HB2 : Hid (Below w.heap.size w (wr.setCell ⟨g, cj, none⟩ (.int .i64 v))) := hbel.out.setCell hgl _
              clear hcc hcj hc0
              go_wp2
              go_roundw
              case rel => exact ⟨j + 1, by omega, by go_num, HO2.out, HB2.out⟩
              case measure => simp [intOf]; omega
            · obtain rfl : j = m := by omega
              go_wp2_with fail
              refine (HN _).mono ?_
              rintro e wf ⟨rfl, hwf⟩
              obtain rfl := hwf
              go_wp2_with fail
              go_ret2
              first | exact ⟨_, _, rfl, own_nil _ _ _, hbel.out⟩ | exact ⟨_, _, rfl, hown.out.mono hsz, hbel.out⟩)
  · have hne : (E1 != 0) = true := by simpa using h1
    obtain rfl : E = E1 := by rw [← hE]; unfold erB; rw [← hE1, if_neg h1]
    rw [lenE_ne _ h1]
    clear hE h1 hs hE1
    go_enter Try.func19, Try.ntmps19
    go_wp2_with fail
    rw [← hw0]
    refine (HC _ (HV.out.below b0)).mono ?_
    rintro e wa ⟨rfl, ha⟩
    have hb := below_then b0 ha
    clear hw0
    go_wp2_with fail
    go_ret2
    exact ⟨_, _, rfl, own_nil _ _ _, hb⟩
end Go.Proofs.Ytkoblkkigmnocaa
