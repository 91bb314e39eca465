/- The walk of the statement that whichever cells are missing, k of them are enough to make all again. -/
import Derived.Test.YthkikocacbbhkaaCodN
namespace Go.Proofs.Ythkikocacbbhkaa
open Go.RowKit

/-- The list of which some cells are taken away: block g. -/
structure Some_ (w : World) (g cs N m : Nat) (A : Nat → Option Addr) (C L : Nat → Nat) : Prop where
  row : ∃ f : Nat → Value, w.rowIs g 23 cs f ∧ ∀ j, j < N → f j = .slice (nilA L A j) (L j) (nilC L C j)
  room : N ≤ cs
  len : ∀ j, j < N → L j = 0 ∨ L j = m
theorem Some_.cell {w : World} {g cs N m : Nat} {A : Nat → Option Addr} {C L : Nat → Nat} (h : Some_ w g cs N m A C L) {j : Nat} (hj : j < N) : w.cell? ⟨g, j, none⟩ = some (.slice (nilA L A j) (L j) (nilC L C j)) := by
  obtain ⟨f, hr, hf⟩ := h.row
  rw [hr.cell (Nat.lt_of_lt_of_le hj h.room), hf j hj]
theorem Some_.take {w : World} {g cs N m n : Nat} {A : Nat → Option Addr} {C L : Nat → Nat} (h : Some_ w g cs N m A C L) : Some_ (w.setCell ⟨g, n, none⟩ (.slice none 0 0)) g cs N m A C (put n 0 L) := by
  obtain ⟨f, hr, hf⟩ := h.row
  refine ⟨⟨_, hr.set n _, fun j hj => ?_⟩, h.room, fun j hj => ?_⟩
  · by_cases e : j = n
    · subst e; unfold nilA nilC; rw [put_at]; simp
    · unfold nilA nilC; rw [put_ne _ _ e, if_neg e, hf j hj]; rfl
  · by_cases e : j = n
    · subst e; rw [put_at]; exact .inl rfl
    · rw [put_ne _ _ e]; exact h.len j hj
theorem Some_.lst {w : World} {g cs N m : Nat} {A : Nat → Option Addr} {C L : Nat → Nat} {H : M} (h : Some_ w g cs N m A C L) (hr : ∀ i, i < N → Rd w (A i) m (H i)) : Lst w (some ⟨g, 0, none⟩) N (nilA L A) (nilC L C) L H :=
  ⟨fun i hi => by
    rcases h.len i hi with e | e
    · rw [e]; exact fun hp => absurd hp (Nat.lt_irrefl 0)
    · intro hp
      have := hr i hi
      unfold nilA
      rw [if_neg (by omega), e]
      exact this (by omega), fun _ => ⟨g, 0, rfl, fun i hi => by rw [Nat.zero_add]; exact h.cell hi⟩⟩
theorem some_start {w : World} {base g N m cs : Nat} {A : Nat → Option Addr} {C : Nat → Nat} (hm : m ≠ 0) (h : w.ownsRow base 23 1 (.slice (some ⟨g, 0, none⟩) N cs) N (rowsOf N A (fun _ => m) C)) : Some_ w g cs N m A C (fun _ => m) := by
  rcases h.2 with ⟨e, _⟩ | ⟨g', cap, cur, e, _, h3, h4, _, h6, h7⟩
  · cases e
  · cases e
    refine ⟨⟨fun i => cur.getD i (.slice none 0 0), ⟨cur, h3, by rw [h6, Nat.mul_one], fun i hi => ?_⟩, fun i hi => ?_⟩, h4, fun _ _ => .inr rfl⟩
    · have : i < cur.size := by omega
      simp [this]
    · have e := rowsOf_get N A (fun _ => m) C i hi
      rw [← h7, Nat.mul_one, List.getElem?_take_of_lt hi, Array.getElem?_toList] at e
      have hcs : i < cur.size := by omega
      rw [Array.getElem?_eq_getElem hcs] at e
      simp only [Array.getD, hcs, dif_pos]
      refine (Option.some.inj e).trans ?_
      unfold nilA nilC
      rw [if_neg hm, if_neg hm]

theorem rowsOf_joinC (k r m : Nat) (T T' : Nat → Option Addr) (U U' : Nat → Nat) : rowsOf (k + r) (join k T T') (fun _ => m) (join k U U') = rowsOf k T (fun _ => m) U ++ rowsOf r T' (fun _ => m) U' := by
  rw [← rowsOf_join k r T T' (fun _ => m) (fun _ => m) U U', show join k (fun _ => m) (fun _ => m) = fun _ => m from funext fun i => join_const k m i]
theorem join_rd {w : World} {k r m : Nat} {A T : Nat → Option Addr} {H : M} (h1 : ∀ i, i < k → Rd w (A i) m (H i)) (h2 : ∀ i, i < r → Rd w (T i) m (par k H i)) (i : Nat) (hi : i < k + r) : Rd w (join k A T i) m (enc k H i) := by
  rw [← join_enc k H i]
  unfold join
  by_cases e : i < k
  · rw [if_pos e, if_pos e]; exact h1 i e
  · rw [if_neg e, if_neg e]; exact h2 (i - k) (by omega)
theorem Rd.some {w : World} {ao : Option Addr} {n : Nat} {f : Nat → K} (h : Rd w ao n f) (hn : 0 < n) : ∃ a, ao = some a := by obtain ⟨b, off, e, _⟩ := h hn; exact ⟨_, e⟩

set_option maxHeartbeats 4000000 in
set_option maxRecDepth 100000 in
theorem any_walk (w : World) (k r : Int) (lo oo : Option Addr) (ll cl lq cq : Nat) (A : Nat → Option Addr) (C L : Nat → Nat) (H : M) (O : Nat → Int) (hl : Lst w lo ll A C L H) (ho : RdI w oo lq O) (hlq : lq ≤ 9223372036854775807) :
    Calls Try.prog 5 #[.int .i64 k, .int .i64 r, .slice lo ll cl, .slice oo lq cq] w fun e w' => e = .returned (.bool true) ∧ Below w.heap.size w w' := by
  have HL : Hid (Lst w lo ll A C L H) := hl
  have HO : Hid (RdI w oo lq O) := ho
  clear hl ho
  go_enter Try.func5, Try.ntmps5
  go_wp2_with fail
  refine (alive_any w).mono ?_
  rintro e w1 ⟨rfl, b1⟩
  replace HL : Hid (Lst w1 lo ll A C L H) := HL.out.below b1
  replace HO : Hid (RdI w1 oo lq O) := HO.out.below b1
  go_wp2_with fail
  refine (much_any w1 lo ll cl A C L H HL.out).mono ?_
  rintro e w' ⟨rfl, hw'⟩
  obtain rfl := hw'.symm
  cases hfew : fewB ll L
  · go_wp2_with fail
    go_ret
    exact ⟨rfl, b1⟩
  clear hfew
  go_wp2_with fail
  refine (Encode_any w1 k r lo ll cl A C L H HL.out).mono ?_
  cases hok : okEnc ll L k r
  · obtain ⟨err, herr⟩ : ∃ err, err = errE (mayB k r) false := ⟨_, rfl⟩
    have hne : (err != 0) = true := by rw [herr]; exact bne_iff_ne.2 (errE_no _)
    rw [← herr]
    clear herr hok
    rintro e w2 ⟨ao, cap, T, U, rfl, _, b2⟩
    replace b1 := below_step b1 b2 b1.size
    have e1 : lenB false r.toNat = 0 := rfl
    clear b2
    go_wp2_with fail
    go_ret
    exact ⟨rfl, b1⟩
  rw [← hok]
  intro e w2 h2
  obtain ⟨k, r, m, po, pc, T, U, rfl, rfl, hk1, hk, hr, rfl, hm1, hm2, hLm, rfl, hcop, b2⟩ := encode_good hok h2
  replace HL : Hid (Lst w2 lo ll A C (fun _ => m) H) := (HL.out.below b2).len' hLm
  replace HO : Hid (RdI w2 oo lq O) := HO.out.below b2
  have HP : Hid (Lst w2 po r T U (fun _ => m) (par ll H)) := hcop.lst
  have hpn : po = none → pc = 0 := by
    rintro rfl
    rcases hcop.out.2 with ⟨e, _⟩ | ⟨g, c, cur, e, _⟩
    · cases e; rfl
    · cases e
  replace b1 := below_step b1 b2 b1.size
  have hbq : ((r : Int) != (r : Int)) = false := by simp
  obtain ⟨bl, ol, rfl, _⟩ := HL.out.at_ (by omega)
  clear h2 hok hcop b2 hLm
  go_wp2_with (first
    | (at_builtin; refine wpList_append_lst (by rfl) (.tmp 41) (.tmp 42) (by rfl) w2.heap.size 0 ll cl (.slice none 0 0) [] (some ⟨bl, ol, none⟩) A (fun _ => m) C H (by rfl) (by rfl) (World.ownsRow_nil _ _ _ _) HL.out (fun e => by cases e) (by omega) (by omega) (Nat.le_refl _) ?_; intro a3 c3 w3 hown3 hgrow3
       have b23 : Below w2.heap.size w2 w3 := grown_below hgrow3 (Nat.le_refl _) (fun q hq => by cases hq)
       have HP3 : Hid (Lst w3 po r T U (fun _ => m) (par ll H)) := HP.out.below b23
       have HW3 : Hid (w3.ownsRow w2.heap.size 23 1 (.slice a3 (0 + ll) c3) (0 + ll) ([] ++ rowsOf ll A (fun _ => m) C)) := hown3
       have hs3 : w2.heap.size ≤ w3.heap.size := b23.size
       clear hown3 hgrow3)
    | (at_builtin; refine wpList_append_lst (by rfl) (.tmp 44) (.tmp 45) (by rfl) w2.heap.size (0 + ll) r pc (.slice a3 (0 + ll) c3) ([] ++ rowsOf ll A (fun _ => m) C) po T (fun _ => m) U (par ll H) (by simp; rfl) (by rfl) HW3.out HP3.out hpn (by omega) (by omega) hs3 ?_; intro a4 c4 w4 hown4 hgrow4
       have b24 : Below w2.heap.size w2 w4 := b23.trans (grown_below hgrow4 hs3 (fun q hq => (HW3.out.lt q hq).1))
       have HW4 : Hid (w4.ownsRow w2.heap.size 23 1 (.slice a4 (ll + r) c4) (ll + r) (rowsOf (ll + r) (join ll A T) (fun _ => m) (join ll C U))) := (by show w4.ownsRow _ _ _ _ _ _; rw [rowsOf_joinC]; have h := hown4; rw [Nat.zero_add, List.nil_append] at h; exact h)
       have HR4 : Hid (∀ i, i < ll + r → Rd w4 (join ll A T i) m (enc ll H i)) := join_rd (fun i hi => (HL.out.rd i hi).below b24) (fun i hi => (HP.out.rd i hi).below b24)
       have HA4 : Hid (Lst w4 a4 (ll + r) (join ll A T) (join ll C U) (fun _ => m) (enc ll H)) := owns_lst HW4.out HR4.out
       have hn4 : a4 = none → c4 = 0 := (fun e => by obtain ⟨_, _, e', _⟩ := HA4.out.at_ (by omega); rw [e] at e'; cases e')
       have hc4 : ll + r ≤ c4 := (owns_cap HW4.out).1
       have HO4 : Hid (RdI w4 oo lq O) := HO.out.below b24
       have HB4 : Hid (Below w.heap.size w w4) := below_step b1 b24 b1.size
       clear hown4 hgrow4 HW4 HW3 HP3 b23 b24)
    | (at_builtin; refine wpList_append_lst (by rfl) (.tmp 47) (.tmp 48) (by rfl) w4.heap.size 0 (ll + r) c4 (.slice none 0 0) [] a4 (join ll A T) (fun _ => m) (join ll C U) (enc ll H) (by rfl) (by first | rfl | (simp; rfl)) (World.ownsRow_nil _ _ _ _) HA4.out hn4 (by omega) (by omega) (Nat.le_refl _) ?_; intro a5 c5 w5 hown5 hgrow5
       have HG5 : Hid (w4.grownBy w5 none) := hgrow5
       have HW5 : Hid (w5.ownsRow w4.heap.size 23 1 (.slice a5 (ll + r) c5) (ll + r) (rowsOf (ll + r) (join ll A T) (fun _ => m) (join ll C U))) := (by have h := hown5; rw [Nat.zero_add, List.nil_append] at h; exact h)
       clear hown5 hgrow5))
  obtain ⟨gs, rfl, hgs⟩ : ∃ gs, a5 = some ⟨gs, 0, none⟩ ∧ w4.heap.size ≤ gs := by
    rcases HW5.out.2 with ⟨_, h0⟩ | ⟨g, c, cur, e, hg, _⟩
    · omega
    · cases e; exact ⟨g, rfl, hg⟩
  obtain ⟨AA, hAA⟩ : ∃ AA, AA = join ll A T := ⟨_, rfl⟩
  obtain ⟨CC, hCC⟩ : ∃ CC, CC = join ll C U := ⟨_, rfl⟩
  have b45 : Below w4.heap.size w4 w5 := grown_below HG5.out (Nat.le_refl _) (fun q hq => by cases hq)
  have HS5 : Hid (Some_ w5 gs c5 (ll + r) m AA CC (fun _ => m)) := by rw [hAA, hCC]; exact some_start (by omega) HW5.out
  rw [← hAA, ← hCC] at HA4
  rw [← hAA] at HR4
  have HRL : Hid (∀ i a, i < ll + r → AA i = some a → a.block < gs) := fun i a hi e => Nat.lt_of_lt_of_le ((HR4.out i hi).lt (by omega) a e) hgs
  have HAB : Hid (∀ a, a4 = some a → a.block < gs) := fun a e => by
    obtain ⟨b, off, e', hc⟩ := HA4.out.at_ (by omega)
    rw [e] at e'
    cases e'
    exact Nat.lt_of_lt_of_le (World.block_lt_of_cell? w4 _ (hc 0 (by omega))) hgs
  have HOB : Hid (0 < lq → ∀ a, oo = some a → a.block < gs) := fun hp a e => Nat.lt_of_lt_of_le (HO4.out.lt hp a e) hgs
  have hgw : w.heap.size ≤ gs := Nat.le_trans HB4.out.size hgs
  replace HR4 : Hid (∀ i, i < ll + r → Rd w5 (AA i) m (enc ll H i)) := fun i hi => (HR4.out i hi).below b45
  replace HA4 : Hid (Lst w5 a4 (ll + r) AA CC (fun _ => m) (enc ll H)) := HA4.out.below b45
  replace HO4 : Hid (RdI w5 oo lq O) := HO4.out.below b45
  replace HB4 : Hid (Below w.heap.size w w5) := below_step HB4.out b45 HB4.out.size
  have hn1 := neq_nil_yes
  have hn0 := neq_nil_no
  clear hAA hCC b45 HW5 HG5 HL HP b1 HO
  go_wp2_with fail
  go_loopw [14, 15] (fun x y wr => ∃ (i g : Nat) (L' : Nat → Nat), i ≤ lq ∧ i ≤ 60 ∧ y = .int .i64 i ∧ x = .int .i64 g ∧ g ≤ r ∧ Hid (cnt L' (ll + r) + g = ll + r) ∧ Hid (Some_ wr gs c5 (ll + r) m AA CC L') ∧ Hid (Keeps gs (gs + 1) w5 wr)) (fun _ y _ => lq - (intOf y).toNat)
  case atStart => exact ⟨0, 0, fun _ => m, Nat.zero_le _, Nat.zero_le _, rfl, rfl, Nat.zero_le _, by show _ = _; rw [cnt_const (by omega)]; rfl, HS5.out, Keeps.refl _ _ _⟩
  case round =>
    obtain ⟨i, g, L', hil, hi60, rfl, rfl, hgr, hcnt, hsome, hkeep⟩ := hrel
    by_cases hgo : i < lq ∧ i < 60 ∧ g < r
    · obtain ⟨hg1, hg2, hg3⟩ := hgo
      obtain ⟨bo, off, rfl, hco⟩ := HO4.out (by omega)
      have ci : wr.cell? ⟨bo, off + i, none⟩ = some (.int .i64 (O i)) := hkeep.out.cell (hco i hg1) (.inl (show bo < gs from HOB.out (by omega) ⟨bo, off, none⟩ rfl))
      obtain ⟨n, hn, hnx, hnl1, hnl2⟩ := nextOf (O i) ll r (by omega)
      have cn := hsome.out.cell hn
      obtain ⟨f0, hrow0, _⟩ := hsome.out.row
      have zn := hrow0.frozen n
      have j1 : (0 : Int) ≤ (n : Int) := by omega
      have j2 : (n : Int) < (ll : Int) + (r : Int) := by omega
      have j3 : (0 : Int) ≤ (i : Int) := by omega
      have j4 : (i : Int) < (lq : Int) := by omega
      clear hco hrow0
      by_cases hz : L' n = 0
      · rw [show nilA L' AA n = none by unfold nilA; rw [if_pos hz], show nilC L' CC n = 0 by unfold nilC; rw [if_pos hz], hz] at cn
        clear hz
        go_wp2
        go_roundw
        case rel => exact ⟨i + 1, g, L', by omega, by omega, by go_num, rfl, hgr, hcnt, hsome, hkeep⟩
        case measure => simp [intOf]; omega
      · obtain ⟨⟨ba, oa, sa⟩, ha⟩ := (HR4.out n hn).some (by omega)
        rw [show nilA L' AA n = some ⟨ba, oa, sa⟩ by unfold nilA; rw [if_neg hz, ha], show nilC L' CC n = CC n by unfold nilC; rw [if_neg hz]] at cn
        have HC1 : Hid (cnt (put n 0 L') (ll + r) + (g + 1) = ll + r) := by
          have h1 := (cnt_put hz (ll + r)).1 hn
          have h2 := hcnt.out
          show _ = _
          omega
        clear hz ha
        go_wp2
        go_roundw
        case rel => exact ⟨i + 1, g + 1, put n 0 L', by omega, by omega, by go_num, by go_num, by omega, HC1, hsome.out.take, hkeep.out.setCell (Nat.le_refl _) (by omega) n _⟩
        case measure => simp [intOf]; omega
    · have hcase : ¬ i < lq ∨ (i < lq ∧ ¬ i < 60) ∨ (i < lq ∧ i < 60 ∧ ¬ g < r) := by omega
      have HRr : ∀ j, j < ll + r → Rd wr (AA j) m (enc ll H j) := fun j hj => (HR4.out j hj).keeps hkeep.out (fun a _ e => .inl (HRL.out j a hj e))
      have HD := decode_some wr ll r m c5 (some ⟨gs, 0, none⟩) _ _ L' H hk1 hk hr hm1 hm2 (hsome.out.lst HRr) hsome.out.len (by have := hcnt.out; omega)
      have HAr : Hid (Lst wr a4 (ll + r) AA CC (fun _ => m) (enc ll H)) := ⟨fun j hj => HRr j hj, fun hp => by
        obtain ⟨b, off, e, hc⟩ := HA4.out.at_ hp
        exact ⟨b, off, e, fun j hj => hkeep.out.cell (hc j hj) (.inl (show b < gs from HAB.out ⟨b, off, none⟩ e))⟩⟩
      have HBr : Hid (Below w.heap.size w wr) := HB4.out.trans (hkeep.out.below HB4.out.size hgw)
      obtain ⟨wm, rfl⟩ : ∃ x, x = wr := ⟨wr, rfl⟩
      clear hgo HRr hsome hkeep hcnt HA4 HR4 HB4 HAB HRL HOB HO4 hgw HS5 hgs hs3
      rcases hcase with h | ⟨h, h'⟩ | ⟨h, h', h''⟩
      all_goals
        go_wp2_with fail
        refine HD.mono ?_
        rintro e w6 ⟨l6, c6, G6, U6, rfl, hm6, b6⟩
        have HA6 : Hid (Lst w6 a4 (ll + r) AA CC (fun _ => m) (enc ll H)) := HAr.out.below b6
        have HSM := sameAll_k w6 (some ⟨l6, 0, none⟩) a4 (ll + r) c6 c4 _ _ _ _ _ _ _ (by omega) hm6.lst_ HA6.out (fun _ _ _ _ => rfl)
        have HB6 : Hid (Below w.heap.size w w6) := below_step HBr.out b6 HBr.out.size
        clear hm6 b6 HD
        go_wp2_with fail
        refine HSM.mono ?_
        rintro e w7 ⟨rfl, b7⟩
        have HA7 : Hid (Lst w7 a4 (ll + r) AA CC (fun _ => m) (enc ll H)) := HA6.out.below b7
        have HV := verify_lst w7 ll r m c4 a4 AA CC (enc ll H) hk1 hk hr hm1 hm2 HA7.out hc4
        rw [ver_enc] at HV
        have HB7 : Hid (Below w.heap.size w w7) := below_step HB6.out b7 HB6.out.size
        clear b7 HSM
        go_wp2_with fail
        refine HV.mono ?_
        rintro e w8 ⟨rfl, b8⟩
        have HA8 : Hid (Lst w8 a4 (ll + r) AA CC (fun _ => m) (enc ll H)) := HA7.out.below b8
        have HB8 : Hid (Below w.heap.size w w8) := below_step HB7.out b8 HB7.out.size
        clear b8 HV
        by_cases hr0 : r = 0
        · have hrz : ((r : Int) == 0) = true := by simp [hr0]
          clear hr0
          go_wp2_with fail
          go_ret
          exact ⟨rfl, HB8.out⟩
        · have hrz : ((r : Int) == 0) = false := by simp [hr0]
          have HTW := twin_any w8 a4 (ll + r) c4 AA CC (fun _ => m) (enc ll H) (by omega) HA8.out (fun j hj e => by obtain ⟨a, e'⟩ := (HA8.out.rd j hj).some (by omega); rw [e] at e'; cases e') (fun j _ => by omega)
          go_wp2_with fail
          refine HTW.mono ?_
          rintro e w9 ⟨to, tc, T9, U9, rfl, hc9, b9⟩
          obtain ⟨l9, G9, rfl, hm9⟩ := Copied.mat hc9 (fun _ _ => rfl) (by omega) (by omega)
          have hlt9 : ll < ll + r := by omega
          have k1 := hm9.cell_l hlt9
          have k2 := (hm9.row ll hlt9).cell (i := 0) (by omega)
          have z2 := (hm9.row ll hlt9).frozen 0
          have HX : Hid (bits .xor .u8 ((enc ll H ll 0).n : Int) 1 = ((((K.add (enc ll H ll 0) (K.of 1))).n : Nat) : Int)) := xor_k (enc ll H ll 0) (K.of 1)
          have HM9 : Hid (Mat w9 w8.heap.size w9.heap.size l9 tc (ll + r) m G9 U9 (enc ll H)) := hm9
          have HB9 : Hid (Below w.heap.size w w9) := below_step HB8.out b9 HB8.out.size
          have j1 : (0 : Int) ≤ (ll : Int) := by omega
          have j2 : (ll : Int) < (ll : Int) + (r : Int) := by omega
          have j3 : 0 < m := by omega
          have j4 : (0 : Int) < (m : Int) := by omega
          clear hc9 hm9 b9 HTW hr0
          go_wp2_with fail
          refine wp_region_still_tail 12 (by kernel_rfl) (by kernel_rfl) ?_
          simp only [List.take_succ_cons, List.take_zero, List.drop_succ_cons, List.drop_zero]
          repeat still_step
          refine wpStill_nil ?_
          go_wp2_with fail
          rw [HX.out]
          have HM10 := (HM9.out.store (j := 0) hlt9 (K.add (enc ll H ll 0) (K.of 1))).below (below_drew _ _)
          have HV2 := verify_lst _ ll r m tc (some ⟨l9, 0, none⟩) _ _ _ hk1 hk hr hm1 hm2 HM10.lst_ HM9.out.room
          rw [ver_wrong H _ (by omega) (by omega) (add_one_ne _)] at HV2
          have HB10 : Hid (Below w.heap.size w (w9.setCell ⟨G9 ll, 0, none⟩ (.int .u8 ((K.add (enc ll H ll 0) (K.of 1)).n : Int))).drew) :=
            (HB9.out.trans (((Keeps.refl (G9 ll) (G9 ll + 1) w9).setCell (Nat.le_refl _) (by omega) 0 _).below HB9.out.size (Nat.le_trans HB8.out.size (HM9.out.los ll hlt9)))).drew
          clear HM10 k1 k2 z2
          refine HV2.mono ?_
          rintro e w11 ⟨rfl, b11⟩
          go_wp2_with fail
          go_ret
          exact ⟨rfl, below_step HB10.out b11 HB10.out.size⟩
end Go.Proofs.Ythkikocacbbhkaa
