/- NameSorts' walk. -/
import Derived.Test.YtdiecjkmbmgbkaaDoorNmN
namespace Go.Proofs.YtdiecjkmbmgbkaaDoor
open Go.RowKit

/-- Names appended to nothing: a row of the call's own. -/
theorem app_names {w : World} {ops : Array Oper} {rest : List Oper} {o : Oper} {a : Act} {Q : Exit → Act → World → Prop} (hgd : o.guard = none) (s x : Operand)
    (ho : o.op = .call { callee := .builtin .append, args := #[s, x], argTypes := #[32, 32] }) (p : Option Addr) (cap : Nat) (L : List Nm)
    (hs : a.eval s = .slice none 0 0) (hx : a.eval x = .slice p L.length cap) (hr : RdS w p L) (hp : p = none → cap = 0) (hl : L.length ≤ 1000000)
    (cont : ∀ v' w', Hid (OwR w.heap.size w' v' L) → Hid (Below w.heap.size w w') → wpList Tryd.prog ops Q rest (a.put o.dst v') w') : wpList Tryd.prog ops Q (o :: rest) a w := by
  obtain ⟨j0, hj, hj0, hj1, hj2⟩ := info_parts strInfo
  cases p with
  | none =>
    have hL : L = [] := Classical.byContradiction fun h => by
      obtain ⟨b, off, e, _⟩ := hr h
      cases e
    subst hL
    obtain rfl := hp rfl
    exact wpList_append_own_none hgd s x 32 ho w.heap.size 9 j0 1 Tryd.underlying32 hj (.slice none 0 0) 0 [] hs (World.ownsRow_nil _ _ _ _) hx (cont _ _ (owR_nil _ _) (Below.refl _ _))
  | some ad =>
    refine wpList_append_own w hgd s x 32 ho w.heap.size 9 j0 (.string ⟨#[]⟩) 1 16 Tryd.underlying32 hj hj0 hj1 hj2 rfl (by decide) (.slice none 0 0) 0 [] hs (World.ownsRow_nil _ _ _ _) ad L.length cap (ens L) hx (by rw [ens_length, Nat.mul_one]) (fun j u hu => ?_) ens_one (by unfold maxLen; omega) (by omega) (Nat.le_refl _) ?_
    · have hjl : j < L.length := by have := (List.getElem?_eq_some_iff.1 hu).1; rwa [ens_length] at this
      obtain ⟨b, off, e, hc⟩ := hr (by intro e; rw [e] at hjl; simp at hjl)
      cases e
      rw [Addr.add_lit, hc j hjl, ← hu, ens_get L j hjl]
      rfl
    · intro v' w' h1 h2 _
      rw [Nat.zero_add, List.nil_append] at h1
      exact cont v' w' (owR_of h1) ((Below.refl _ _).grown h2 (Nat.le_refl _) (fun q hq => by cases hq))
theorem RdS.set {w : World} {ao : Option Addr} {L : List Nm} {g j : Nat} {v : Value} (h : RdS w ao L) (hne : ∀ b off, ao = some ⟨b, off, none⟩ → L ≠ [] → b ≠ g) : RdS (w.setCell ⟨g, j, none⟩ v) ao L := fun hL => by
  obtain ⟨b, off, e, hc⟩ := h hL
  refine ⟨b, off, e, fun i hi => ?_⟩
  rw [World.cell?_setCell_other _ _ _ _ (by intro q; exact hne b off e hL (by cases q; rfl))]
  exact hc i hi
/-- Cells that may be written. -/
def Wr (w : World) (g n : Nat) : Prop := ∀ j, j < n → (∃ v, w.cell? ⟨g, j, none⟩ = some v) ∧ w.frozen? ⟨g, j, none⟩ = false
theorem Wr.set {w : World} {g n j : Nat} {v : Value} (h : Wr w g n) : Wr (w.setCell ⟨g, j, none⟩ v) g n := fun i hi => by
  obtain ⟨⟨u, hu⟩, hf⟩ := h i hi
  refine ⟨?_, by rw [World.frozen?_setCell]; exact hf⟩
  by_cases e : i = j
  · subst e; exact ⟨v, World.cell?_setCell_same _ _ _ hu⟩
  · exact ⟨u, by rw [World.cell?_setCell_other _ _ _ _ (by intro q; cases q; exact e rfl)]; exact hu⟩
set_option maxHeartbeats 4000000 in
set_option maxRecDepth 100000 in
theorem sorts_law (w : World) (hsy : Syn w) (p : Option Addr) (len cap : Nat) (L : List Nm) (hL : L.length = len) (hr : RdS w p L) (hp : p = none → cap = 0) : Calls Tryd.prog 5 #[.slice p len cap] w fun e w' => e = .returned (.bool true) ∧ Below w.heap.size w w' := by
  subst hL
  have HA := alive_any w hsy
  by_cases hbig : L.length ≤ 500
  · have lb : (L.length : Int) ≤ 500 := by omega
    have HR : Hid (RdS w p L) := hr
    have HP : Hid (p = none → cap = 0) := hp
    clear hr hsy hp
    go_enter Tryd.func5, Tryd.ntmps5
    go_wp2_with (fail)
    refine HA.mono ?_
    rintro _ w1 ⟨rfl, b1⟩
    clear HA
    have HB1 : Hid (Below w.heap.size w w1) := b1
    have HR1 : Hid (RdS w1 p L) := HR.out.below b1
    clear b1
    go_wp2_with (at_builtin; refine app_names (by rfl) (.tmp 19) (.tmp 20) (by rfl) p cap L (by rfl) (by rfl) HR1.out HP.out (by omega) ?_; intro v' wx HOx HBx; obtain ⟨xo, xc, rfl, _, hox⟩ := HOx.out.own; have HX : Hid (RdS wx xo L) := hox.rd; clear hox)
    refine (Sort_any L (by omega) xo xc wx HX.out).mono ?_
    rintro _ ws ⟨ao, cp, rfl, _, ho, bs⟩
    have HBs : Hid (Below w.heap.size w ws) := below_then (below_then HB1.out HBx.out) bs
    have HBxs : Hid (Below wx.heap.size wx ws) := bs
    have hwx : w.heap.size ≤ wx.heap.size := (below_then HB1.out HBx.out).size
    clear bs
    go_wp2_with (fail)
    refine (RSort_any L (by omega) p cap ws (HR.out.below HBs.out)).mono ?_
    rintro _ ww ⟨wo, wc, rfl, _, hwo, bw⟩
    obtain ⟨R, hR⟩ : ∃ R, R = rowS L := ⟨_, rfl⟩
    obtain ⟨E, hE⟩ : ∃ E, E = erS L := ⟨_, rfl⟩
    have hRl := rowS_le L
    rw [← hR] at ho hwo hRl ⊢
    rw [← hE]
    have HSA := fun (xo : Option Addr) (xc : Nat) (u : World) (h : RdS u xo L) => Sort_any L (by omega) xo xc u h
    unfold AnsS at HSA
    rw [← hR, ← hE] at HSA
    have HSA' : Hid (∀ (xo : Option Addr) (xc : Nat) (u : World), RdS u xo L → _) := HSA
    clear HSA hR hE
    have HSM := Same_any R R ww ao wo cp wc (ho.rd.below bw) hwo.rd (by omega)
    rw [decide_eq_true rfl] at HSM
    have HBw : Hid (Below w.heap.size w ww) := below_then HBs.out bw
    obtain ⟨g, hga, hgw, hgx, hgo⟩ : ∃ g, (R ≠ [] → ao = some ⟨g, 0, none⟩) ∧ Wr ww g R.length ∧ wx.heap.size ≤ g ∧ (R ≠ [] → g < ws.heap.size) := by
      by_cases hRe : R = []
      · exact ⟨wx.heap.size, fun h => absurd hRe h, (by rw [hRe]; exact fun j hj => by simp at hj), Nat.le_refl _, fun h => absurd hRe h⟩
      · obtain ⟨g, e, h1, h2, hc⟩ := ho hRe
        exact ⟨g, fun _ => e, fun j hj => ⟨⟨_, held (hc j hj).1 bw⟩, by rw [World.frozen?_of_block (bw.block g h2)]; exact (hc j hj).2⟩, h1, fun _ => h2⟩
    have HGA : Hid (R ≠ [] → ao = some ⟨g, 0, none⟩) := hga
    have HGW : Hid (Wr ww g R.length) := hgw
    have HXN : Hid (∀ b off, xo = some ⟨b, off, none⟩ → L ≠ [] → b ≠ g) := fun b off e hne => by
      obtain ⟨b', off', e', hc⟩ := HX.out hne
      rw [e] at e'
      cases e'
      have := World.block_lt_of_cell? wx _ (hc 0 (List.length_pos_iff.2 hne))
      simp at this
      omega
    have HPN : Hid (∀ b off, p = some ⟨b, off, none⟩ → L ≠ [] → b ≠ g) := fun b off e hne => by
      obtain ⟨b', off', e', hc⟩ := HR.out hne
      rw [e] at e'
      cases e'
      have := World.block_lt_of_cell? w _ (hc 0 (List.length_pos_iff.2 hne))
      simp at this
      omega
    have HWN : Hid (∀ b off, wo = some ⟨b, off, none⟩ → R ≠ [] → b ≠ g) := fun b off e hne => by
      obtain ⟨b', e', h1, _, _⟩ := hwo hne
      rw [e] at e'
      cases e'
      have := hgo hne
      omega
    have HX0 : Hid (RdS ww xo L) := HX.out.below (below_then HBxs.out bw)
    have HP0 : Hid (RdS ww p L) := HR.out.below HBw.out
    have HW0 : Hid (RdS ww wo R) := hwo.rd
    have hgB : w.heap.size ≤ g := by omega
    clear ho hwo bw hga hgw hgx hgo hwx
    go_wp2_with (fail)
    refine HSM.mono ?_
    rintro _ wy ⟨rfl, q, hwy⟩
    have BYW : Below ww.heap.size ww wy := by rw [hwy]; exact below_drewN _ _ _
    have HGW' : Hid (Wr wy g R.length) := by rw [hwy]; exact HGW.out
    have HXY : Hid (RdS wy xo L) := HX0.out.below BYW
    have HPY : Hid (RdS wy p L) := HP0.out.below BYW
    have HWY : Hid (RdS wy wo R) := HW0.out.below BYW
    have HBY : Hid (Below w.heap.size w wy) := below_then HBw.out BYW
    clear hwy BYW HGW HX0 HP0 HW0 HSM
    go_wp2_with (fail)
    go_loopw [10] (fun x wr => ∃ i : Nat, i ≤ R.length ∧ x = .int .i64 (i : Int) ∧ Hid (Wr wr g R.length) ∧ Hid (RdS wr xo L) ∧ Hid (RdS wr p L) ∧ Hid (RdS wr wo R) ∧ Hid (Below w.heap.size w wr)) (fun x _ => R.length - (intOf x).toNat)
    case atStart => exact ⟨0, Nat.zero_le _, rfl, HGW', HXY, HPY, HWY, HBY⟩
    case round =>
      obtain ⟨i, hi, rfl, hgw, hx, hpp, hw, hb⟩ := hrel
      have i0 : (0 : Int) ≤ (i : Int) := by omega
      by_cases hlt : i < R.length
      · have i1 : (i : Int) < (R.length : Int) := by omega
        obtain rfl := HGA.out (by intro e; rw [e] at hlt; simp at hlt)
        obtain ⟨⟨v, cv⟩, fv⟩ := hgw.out i hlt
        go_wp2_with (fail)
        go_roundw
        case rel => exact ⟨i + 1, by omega, by go_num, hgw.out.set, hx.out.set HXN.out, hpp.out.set HPN.out, hw.out.set HWN.out, hb.out.setCell (p := ⟨g, i, none⟩) hgB _⟩
        case measure => simp [intOf]; omega
      · have hi1 : i = R.length := by omega
        have i2 : (R.length : Int) ≤ (i : Int) := by omega
        go_wp2_with (fail)
        refine (HSA'.out xo xc wr hx.out).mono ?_
        rintro _ wz ⟨zo, zc, rfl, _, hz, bz⟩
        have HS2 := Same_any R R wz zo wo zc wc hz.rd (hw.out.below bz) (by omega)
        rw [decide_eq_true rfl] at HS2
        have HBZ : Hid (Below w.heap.size w wz) := below_then hb.out bz
        have HXZ : Hid (RdS wz xo L) := hx.out.below bz
        have HPZ : Hid (RdS wz p L) := hpp.out.below bz
        clear hz bz hi1
        go_wp2_with (fail)
        refine HS2.mono ?_
        rintro _ wv ⟨rfl, q2, rfl⟩
        have HS3 := Same_any L L (wz.drewN q2) xo p xc cap (HXZ.out.below (below_drewN _ _ _)) (HPZ.out.below (below_drewN _ _ _)) (by omega)
        rw [decide_eq_true rfl] at HS3
        clear HS2
        go_wp2_with (fail)
        refine HS3.mono ?_
        rintro _ wv ⟨rfl, q3, rfl⟩
        clear HS3
        go_wp2_with (fail)
        go_ret
        exact ⟨rfl, HBZ.out.trans (below_drewN _ _ _)⟩
  · have lb : 500 < (L.length : Int) := by omega
    go_enter Tryd.func5, Tryd.ntmps5
    go_wp2_with (fail)
    refine HA.mono ?_
    rintro _ w1 ⟨rfl, b1⟩
    go_wp2_with (fail)
    go_ret
    exact ⟨rfl, b1⟩
end Go.Proofs.YtdiecjkmbmgbkaaDoor
