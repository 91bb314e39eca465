import Derived.Deep.RegionHeld3
import Derived.Test.YtdmpiipllmjloaaGreatPj29
import Derived.Test.YtdmpiipllmjloaaGreatPj36
import Derived.Test.YtdmpiipllmjloaaGreatPj38
namespace Go.Proofs.YtdmpiipllmjloaaGreat
open Go.RowKit
def RdT (w : World) (ao : Option Addr) (n : Nat) (V : Nat -> Bool) : Prop :=
  0 < n -> ∃ b off, ao = some ⟨b, off, none⟩ /\ ∀ i, i < n -> w.cell? ⟨b, off + i, none⟩ = some (.bool (V i))
theorem RdT.below {w w' : World} {ao : Option Addr} {n : Nat} {V : Nat -> Bool} (h : RdT w ao n V) (ho : Below w.heap.size w w') : RdT w' ao n V := by
  intro hn
  obtain ⟨b, off, rfl, hc⟩ := h hn
  exact ⟨b, off, rfl, fun i hi => held (hc i hi) ho⟩
theorem wp_end {α : Type} {P : Nat -> Bool} {x : α} {f : Nat -> α} {t : Nat} : ∀ {n : Nat}, t <= n -> (∀ i, t <= i -> i < n -> P i = true) -> wp P x f n = wp P x f t
  | 0, h, _ => by rw [show t = 0 by omega]
  | n + 1, h, hp => by
    by_cases e : t = n + 1
    · rw [e]
    · rw [wp_skip (hp n (by omega) (by omega))]; exact wp_end (by omega) fun i h1 h2 => hp i h1 (by omega)
set_option maxHeartbeats 4000000 in
set_option maxRecDepth 100000 in
theorem behind_any (w : World) (ro : Option Addr) (rn rc : Nat) (A : Nat -> Option Addr) (L C : Nat -> Nat) (F : Nat -> Nat -> UInt8) (hr : Rw w ro rn A L C F) (hrn : 0 < rn) (hrn2 : rn <= 16) (B : Nat) (lo : Option Addr) (cap : Nat) (Lc os : Nat -> Nat) (nu : Int) (nn : Nat) (T : Nat -> Option Addr) (U : Nat -> Nat) (G : Nat -> Nat -> UInt8) (hp : PL B w lo (Cod.cnt Lc rn) cap rn Lc os nu nn T U G) (ho : ∀ i, os i < 2) (n : Nat) (hn : n <= Cod.cnt Lc rn) (tob : Option Addr) (tn tc : Nat) (V : Nat -> Bool) (hT : RdT w tob tn V) (P : Nat -> Bool) (hP : ∀ i, P i = !(decide (i < tn) && V i)) :
    Calls Tryz.prog 13 #[.slice ro rn rc, .slice lo (Cod.cnt Lc rn) cap, .int .i64 (n : Int), .slice tob tn tc] w fun e w' => ∃ g c', e = .returned (.tuple #[.slice (some ⟨g, 0, none⟩) rn c', .int .i64 (((Cn.dl (fun i => !P i) rn).length : Nat) : Int)]) /\ Rn w.heap.size w' g rn c' (wp P none (bP Lc os rn A T n) rn) (wp P 0 (bP Lc os rn L (fun _ => nn) n) rn) (wp P 0 (bP Lc os rn C U n) rn) (bP Lc os rn F G n) /\ Below w.heap.size w w' := by
  obtain ⟨j0, hj, hj0, hj1, hj2⟩ := info_parts info35
  obtain ⟨a, rfl⟩ : ∃ a, ro = some a := by obtain ⟨b, off, e, _⟩ := hr.at_ hrn; exact ⟨_, e⟩
  have hnw := rw_news hr hrn
  have HR : Hid (Rw w (some a) rn A L C F) := hr
  have HPL : Hid (PL B w lo (Cod.cnt Lc rn) cap rn Lc os nu nn T U G) := hp
  have HSEL : Hid (Cod.Sel Lc rn (Cod.cnt Lc rn) (Cod.sel Lc rn)) := Cod.sel_is Lc rn
  have HGET : Hid (∀ t, t < Cod.cnt Lc rn -> (ptl Lc os nu nn T U rn)[t * 4]? = some (.int .i64 ((Cod.sel Lc rn t : Nat) : Int)) /\ (ptl Lc os nu nn T U rn)[t * 4 + 2]? = some (.int .i64 ((os (Cod.sel Lc rn t) : Nat) : Int)) /\ (ptl Lc os nu nn T U rn)[t * 4 + 3]? = some (.slice (T (Cod.sel Lc rn t)) nn (U (Cod.sel Lc rn t)))) := ptl_get Lc os nu nn T U rn
  have HOS : Hid (∀ i, os i < 2) := ho
  have HT : Hid (RdT w tob tn V) := hT
  have HPP : Hid (∀ i, P i = !(decide (i < tn) && V i)) := hP
  have HBEC : Hid (∀ t, t <= Cod.cnt Lc rn -> ∀ j, j < 2 * rn -> Bec w (bP Lc os rn A T t j) (bP Lc os rn L (fun _ => nn) t j) (bP Lc os rn C U t j) (bP Lc os rn F G t j)) := fun t => by
    induction t with
    | zero => exact fun _ j hj => hr.bec j hj
    | succ t ih =>
      intro ht j hj
      rw [bP, bP, bP, bP]
      by_cases e : j = 2 * Cod.sel Lc rn t + os (Cod.sel Lc rn t)
      · rw [e, Cod.put_at, Cod.put_at, Cod.put_at, Cod.put_at]
        exact (hp.row _ ((Cod.sel_is Lc rn).lt t (by omega)) ((Cod.sel_is Lc rn).there t (by omega))).bec
      · rw [Cod.put_ne _ _ e, Cod.put_ne _ _ e, Cod.put_ne _ _ e, Cod.put_ne _ _ e]; exact ih (by omega) j hj
  have hcl := Cod.cnt_le Lc rn
  obtain ⟨cm, hcm⟩ : ∃ cm, cm = Cod.cnt Lc rn := ⟨_, rfl⟩
  rw [<- hcm] at HPL HSEL HGET HBEC hn hcl ⊢
  obtain ⟨xs, hxs⟩ : ∃ xs, xs = Cod.rowsOf (2 * rn) A L C := ⟨_, rfl⟩
  rw [<- hxs] at hnw
  have hxl : xs.length = rn * 2 := by rw [hxs, Cod.rowsOf_length, Nat.mul_comm]
  have hx1 : ∀ u ∈ xs, u.oneCell' = true := by rw [hxs]; exact Cod.rowsOf_one _ _ _ _
  have HXS : Hid (xs = Cod.rowsOf (2 * rn) A L C) := hxs
  clear hr hp ho hcm hxs hT hP
  go_enter Tryz.func13, Tryz.ntmps13
  go_wp2_with (at_builtin; refine wpList_append_own w (by rfl) (.tmp 14) (.tmp 15) 24 (by rfl) w.heap.size 67 j0 (.agg #[.slice none 0 0, .slice none 0 0]) 2 48 Tryz.underlying24 hj hj0 hj1 hj2 (by rfl) (by decide) (.slice none 0 0) 0 [] (by rfl) (World.ownsRow_nil _ _ _ _) a rn rc xs (by rfl) hxl hnw hx1 (by unfold maxLen; omega) (by omega) (Nat.le_refl _) ?_; intro v5 w5 hown5 hgrow5 hnil5)
  obtain ⟨g, c5, rfl⟩ : ∃ g c5, v5 = .slice (some ⟨g, 0, none⟩) rn c5 := by
    rcases hown5.2 with ⟨_, e⟩ | ⟨g, c5, cur, e, _⟩
    · omega
    · rw [Nat.zero_add] at e; exact ⟨g, c5, e⟩
  rw [Nat.zero_add, List.nil_append] at hown5
  have HB5 : Hid (Below w.heap.size w w5) := (Below.refl _ _).grown hgrow5 (Nat.le_refl _) (fun r hr => by cases hr)
  have HO5 : Hid (w5.ownsRow w.heap.size 67 2 (.slice (some ⟨g, 0, none⟩) rn c5) rn (Cod.rowsOf (2 * rn) A L C)) := by rw [<- HXS.out]; exact hown5
  clear hown5 hgrow5 hnil5 hnw hxl hx1
  go_wp2_with fail
  go_loopw [11] (fun y wr => ∃ t : Nat, t <= n /\ y = .int .i64 (t : Int) /\ Hid (Rn w.heap.size wr g rn c5 (bP Lc os rn A T t) (bP Lc os rn L (fun _ => nn) t) (bP Lc os rn C U t) (bP Lc os rn F G t)) /\ Hid (Below w.heap.size w wr)) (fun y _ => n - (intOf y).toNat)
  case atStart => exact ⟨0, Nat.zero_le _, rfl, ⟨HO5.out, fun j hj => (HR.out.bec j hj).below HB5.out⟩, HB5.out⟩
  case round =>
    obtain ⟨t, ht, rfl, hrn3, hbw⟩ := hrel
    by_cases hlt : t < n
    · obtain ⟨D, hD⟩ : ∃ D, D = Cod.sel Lc rn t := ⟨_, rfl⟩
      obtain ⟨s, hs⟩ : ∃ s, s = os D := ⟨_, rfl⟩
      have hDl : D < rn := by rw [hD]; exact HSEL.out.lt t (by omega)
      have hs2 : s < 2 := by rw [hs]; exact HOS.out D
      obtain ⟨gl, rfl⟩ : ∃ gl, lo = some ⟨gl, 0, none⟩ := by
        rcases HPL.out.out.2 with ⟨_, e⟩ | ⟨gl, _, _, e, _⟩
        · omega
        · cases e; exact ⟨gl, rfl⟩
      have hb2 := (HPL.out.below hbw.out)
      obtain ⟨g0, g2, g3⟩ := HGET.out t (by omega)
      rw [<- hD] at g0 g2 g3
      rw [<- hs] at g2
      have c0 : wr.cell? ⟨gl, t * 4, none⟩ = some (.int .i64 (D : Int)) := by
        have := hb2.out.cells (g := gl) rfl _ _ g0; rw [Addr.add_lit, Nat.zero_add] at this; exact this
      have c2 : wr.cell? ⟨gl, t * 4 + 2, none⟩ = some (.int .i64 (s : Int)) := by
        have := hb2.out.cells (g := gl) rfl _ _ g2; rw [Addr.add_lit, Nat.zero_add] at this; exact this
      have c3 : wr.cell? ⟨gl, t * 4 + 3, none⟩ = some (.slice (T D) nn (U D)) := by
        have := hb2.out.cells (g := gl) rfl _ _ g3; rw [Addr.add_lit, Nat.zero_add] at this; exact this
      have hst := World.ownsRow.stored hrn3.out.out (D * 2 + s) (.slice (T D) nn (U D))
      rw [rows_set] at hst
      have hgg : w.heap.size <= g := (owns_at hrn3.out.out (a := ⟨g, 0, none⟩) rfl).1
      have ⟨gcur, hgc⟩ := (owns_at hrn3.out.out (a := ⟨g, 0, none⟩) rfl).2.2
      have hne : gl ≠ g := fun e => by
        obtain ⟨_, _, cur, hc⟩ := owns_at hb2.out (a := ⟨gl, 0, none⟩) rfl
        simp only at hc hgc
        rw [e, hgc] at hc
        cases hc
      have e1 : 2 * D + s = D * 2 + s := by omega
      have HNX : Hid (Rn w.heap.size (wr.setCell ⟨g, D * 2 + s, none⟩ (.slice (T D) nn (U D))) g rn c5 (bP Lc os rn A T (t + 1)) (bP Lc os rn L (fun _ => nn) (t + 1)) (bP Lc os rn C U (t + 1)) (bP Lc os rn F G (t + 1))) := by
        refine ⟨?_, fun j hj => ?_⟩
        · rw [bP, bP, bP, <- hD, <- hs, e1]; exact hst.1
        · exact (HBEC.out (t + 1) (by omega) j hj).below (hbw.out.setCell hgg _)
      have HNB : Hid (Below w.heap.size w (wr.setCell ⟨g, D * 2 + s, none⟩ (.slice (T D) nn (U D)))) := hbw.out.setCell hgg _
      have k0 := hrn3.out.cell (j := D * 2 + s) (by omega)
      have kf : wr.frozen? ⟨g, D * 2 + s, none⟩ = false := World.ownsRow.frozenAt hrn3.out.out _
      have i1 : (0 : Int) <= (t : Int) := by omega
      have i2 : (t : Int) < (cm : Int) := by omega
      have i3 : ¬ (D : Int) < 0 := by omega
      have i4 : ¬ (rn : Int) <= (D : Int) := by omega
      have i5 : ¬ (s : Int) < 0 := by omega
      have i6 : ¬ (1 : Int) < (s : Int) := by omega
      have i7 : (0 : Int) <= (D : Int) := by omega
      have i8 : (D : Int) < (rn : Int) := by omega
      have i9 : (0 : Int) <= (s : Int) := by omega
      have i10 : (s : Int) < 2 := by omega
      have n1 : ¬ g = gl := fun e => hne e.symm
      clear hst hb2 g0 g2 g3 hD hs hgc e1
      go_wp2_with fail
      go_region_held3 (fun u => u.cell? ⟨gl, t * 4, none⟩ = some (.int .i64 (D : Int)) /\ u.cell? ⟨gl, t * 4 + 2, none⟩ = some (.int .i64 (s : Int)) /\ u.cell? ⟨gl, t * 4 + 3, none⟩ = some (.slice (T D) nn (U D))) (go_keep) ((fail))
      go_wp2_with fail
      go_roundw
      case rel => exact ⟨t + 1, by omega, by go_num, HNX.out.below (below_drew _ _), HNB.out.trans (below_drew _ _)⟩
      case measure => simp [intOf]; omega
    · obtain rfl : t = n := by omega
      have HBC := HBEC.out t (by omega)
      obtain ⟨A', hA'⟩ : ∃ x, x = bP Lc os rn A T t := ⟨_, rfl⟩
      obtain ⟨LX, hLX⟩ : ∃ x, x = bP Lc os rn L (fun _ => nn) t := ⟨_, rfl⟩
      obtain ⟨C', hC'⟩ : ∃ x, x = bP Lc os rn C U t := ⟨_, rfl⟩
      obtain ⟨FX, hFX⟩ : ∃ x, x = bP Lc os rn F G t := ⟨_, rfl⟩
      rw [<- hA', <- hLX, <- hC', <- hFX] at hrn3 HBC
      have HEQ : Hid (A' = bP Lc os rn A T t /\ LX = bP Lc os rn L (fun _ => nn) t /\ C' = bP Lc os rn C U t /\ FX = bP Lc os rn F G t) := ⟨hA', hLX, hC', hFX⟩
      have HBC2 : Hid (∀ j, j < 2 * rn -> Bec w (A' j) (LX j) (C' j) (FX j)) := HBC
      have HW0 : Hid (Below w.heap.size w wr) := hbw.out
      have HR0 : Hid (Rn w.heap.size wr g rn c5 A' LX C' FX) := hrn3.out
      clear hA' hLX hC' hFX HBC HBEC HPL HSEL HGET HOS HR hbw hrn3 HO5 HB5 HXS
      go_wp2_with fail
      go_loopw [12, 13] (fun z y wr => ∃ t : Nat, t <= rn /\ t <= tn /\ y = .int .i64 (t : Int) /\ z = .int .i64 (((Cn.dl (fun i => !P i) t).length : Nat) : Int) /\ Hid (Rn w.heap.size wr g rn c5 (wp P none A' t) (wp P 0 LX t) (wp P 0 C' t) FX) /\ Hid (Below w.heap.size w wr)) (fun _ y _ => rn - (intOf y).toNat)
      case atStart => exact ⟨0, Nat.zero_le _, Nat.zero_le _, rfl, rfl, by rw [wp_zero, wp_zero, wp_zero]; exact HR0, HW0⟩
      case round =>
        obtain ⟨t, ht, ht2, rfl, rfl, hR, hb⟩ := hrel
        have hdn := Cn.dl_few (fun i => !P i) t
        obtain ⟨ct, hct⟩ : ∃ ct, ct = (Cn.dl (fun i => !P i) t).length := ⟨_, rfl⟩
        rw [<- hct] at hdn ⊢
        have HCT : Hid (ct = (Cn.dl (fun i => !P i) t).length) := hct
        clear hct
        have j1 : (0 : Int) <= (t : Int) := by omega
        by_cases hlt : t < rn
        · have j3 : (t : Int) < (rn : Int) := by omega
          by_cases hw : t < tn
          · have j2 : (t : Int) < (tn : Int) := by omega
            obtain ⟨b, off, rfl, hc⟩ := HT.out (by omega)
            have cw : wr.cell? ⟨b, off + t, none⟩ = some (.bool (V t)) := held (hc t hw) hb.out
            clear hc
            cases hV : V t
            · rw [hV] at cw
              have e : P t = true := by rw [HPP.out, hV]; simp
              have HS : Hid (ct = (Cn.dl (fun i => !P i) (t + 1)).length /\ Rn w.heap.size wr g rn c5 (wp P none A' (t + 1)) (wp P 0 LX (t + 1)) (wp P 0 C' (t + 1)) FX) := by
                refine ⟨?_, ?_⟩
                · rw [Cn.dl, if_neg (by rw [e]; decide)]; exact HCT.out
                · rw [wp_skip e, wp_skip e, wp_skip e]; exact hR.out
              clear e
              go_wp2_with fail
              go_roundw
              case rel => exact ⟨t + 1, by omega, by omega, by go_num, by rw [<- HS.out.1], HS.out.2, hb.out⟩
              case measure => simp [intOf]; omega
            · rw [hV] at cw
              have hPt : P t = false := by rw [HPP.out, hV, decide_eq_true hw]; rfl
              have hst := World.ownsRow.stored hR.out.out (t * 2) (.slice none 0 0)
              rw [rows_set] at hst
              have hst2 := World.ownsRow.stored hst.1 (t * 2 + 1) (.slice none 0 0)
              rw [rows_set] at hst2
              have hgg : w.heap.size <= g := (owns_at hR.out.out (a := ⟨g, 0, none⟩) rfl).1
              have HNB : Hid (Below w.heap.size w ((wr.setCell ⟨g, t * 2, none⟩ (.slice none 0 0)).setCell ⟨g, t * 2 + 1, none⟩ (.slice none 0 0))) := (hb.out.setCell hgg _).setCell hgg _
              have HNX : Hid (ct + 1 = (Cn.dl (fun i => !P i) (t + 1)).length /\ Rn w.heap.size ((wr.setCell ⟨g, t * 2, none⟩ (.slice none 0 0)).setCell ⟨g, t * 2 + 1, none⟩ (.slice none 0 0)) g rn c5 (wp P none A' (t + 1)) (wp P 0 LX (t + 1)) (wp P 0 C' (t + 1)) FX) := by
                refine ⟨by rw [Cn.dl, if_pos (by rw [hPt]; rfl), HCT.out]; simp, ?_, wp_bec HBC2.out HNB.out (t + 1)⟩
                rw [wp_take hPt, wp_take hPt, wp_take hPt]; exact hst2.1
              have k0 := hR.out.cell (j := t * 2) (by omega)
              have k1 := hR.out.cell (j := t * 2 + 1) (by omega)
              have kf0 : wr.frozen? ⟨g, t * 2, none⟩ = false := World.ownsRow.frozenAt hR.out.out _
              have kf1 : wr.frozen? ⟨g, t * 2 + 1, none⟩ = false := World.ownsRow.frozenAt hR.out.out _
              clear hst hst2 hPt
              go_wp2_with fail
              go_roundw
              case rel => exact ⟨t + 1, by omega, by omega, by go_num, by rw [<- HNX.out.1]; go_num, HNX.out.2, HNB.out⟩
              case measure => simp [intOf]; omega
          · have j2 : ¬ (t : Int) < (tn : Int) := by omega
            have HE : Hid (∀ i, t <= i -> i < rn -> P i = true) := fun i h1 _ => by rw [HPP.out, decide_eq_false (by omega)]; rfl
            go_wp2_with fail
            go_ret2
            rw [<- HEQ.out.1, <- HEQ.out.2.1, <- HEQ.out.2.2.1, <- HEQ.out.2.2.2]
            refine ⟨g, c5, ?_, ?_, hb.out⟩
            · rw [dl_upto ht (fun i h1 h2 => by rw [HE.out i h1 h2]; rfl), <- HCT.out]; rfl
            · rw [wp_end ht HE.out, wp_end ht HE.out, wp_end ht HE.out]; exact hR.out
        · obtain rfl : t = rn := by omega
          have j3 : ¬ (t : Int) < (t : Int) := by omega
          go_wp2_with fail
          go_ret2
          rw [<- HEQ.out.1, <- HEQ.out.2.1, <- HEQ.out.2.2.1, <- HEQ.out.2.2.2]
          exact ⟨g, c5, by rw [<- HCT.out]; rfl, hR.out, hb.out⟩
set_option maxHeartbeats 4000000 in
set_option maxRecDepth 100000 in
theorem same_any (w : World) (l d : Int) (ao : Option Addr) (n ca : Nat) (bo : Option Addr) (cb : Nat) (R V : Nat -> Int) (ha : De.RdR w ao n R V) (hb : De.RdR w bo n R V) (hn : n <= 1000) :
    Calls Tryz.prog 14 #[.agg #[.int .i64 l, .int .i64 d, .slice ao n ca], .agg #[.int .i64 l, .int .i64 d, .slice bo n cb]] w fun e w' => e = .returned (.bool true) /\ Below w.heap.size w w' := by
  have HA : Hid (De.RdR w ao n R V) := ha
  have HB : Hid (De.RdR w bo n R V) := hb
  clear ha hb
  obtain ⟨w0, hw0⟩ : ∃ w0, w0 = w.alloc (.cells #[.int .i64 l, .int .i64 d, .slice ao n ca] 27) := ⟨_, rfl⟩
  obtain ⟨w1, hw1⟩ : ∃ w1, w1 = w0.alloc (.cells #[.int .i64 l, .int .i64 d, .slice bo n cb] 27) := ⟨_, rfl⟩
  have b0 : Below w.heap.size w w0 := by rw [hw0]; exact below_alloc _ _
  have b1 : Below w0.heap.size w0 w1 := by rw [hw1]; exact below_alloc _ _
  have z0 : w0.heap.size = w.heap.size + 1 := by rw [hw0]; simp
  have HBB : Hid (Below w.heap.size w w1) := below_then b0 b1
  have HQ : Hid (∀ u, Below w1.heap.size w1 u -> u.cell? ⟨w.heap.size, 2, none⟩ = some (.slice ao n ca) /\ u.cell? ⟨w.heap.size + 1, 2, none⟩ = some (.slice bo n cb)) := fun u hu => ⟨blk_held hw0 (below_then b1 hu) 2 rfl, by rw [<- z0]; exact blk_held hw1 hu 2 rfl⟩
  go_enter Tryz.func14, Tryz.ntmps14
  go_wp2_with fail
  rw [<- hw0, <- hw1]
  clear hw0 hw1 z0 b0 b1
  go_loopw [5] (fun x wr => ∃ i : Nat, i <= n /\ x = .int .i64 i /\ Hid (Below w1.heap.size w1 wr)) (fun x _ => n - (intOf x).toNat)
  case atStart => exact ⟨0, Nat.zero_le _, rfl, Below.refl _ _⟩
  case round =>
    obtain ⟨i, hi, rfl, hbel⟩ := hrel
    obtain ⟨q0, q1⟩ := HQ.out wr hbel.out
    by_cases hlt : i < n
    · obtain ⟨b, off, rfl, hc⟩ := (HA.out.below (below_then HBB.out hbel.out)) (by omega)
      obtain ⟨c0, c1⟩ := hc i hlt
      obtain ⟨b2, off2, rfl, hc2⟩ := (HB.out.below (below_then HBB.out hbel.out)) (by omega)
      obtain ⟨d0, d1⟩ := hc2 i hlt
      have i1 : (0 : Int) <= (i : Int) := by omega
      have i2 : (i : Int) < (n : Int) := by omega
      generalize R i = ri at *
      generalize V i = vi at *
      clear hc hc2
      go_wp2_with fail
      go_quiet (fail)
      go_wp2_with fail
      exact ⟨⟨i + 1, by omega, by go_num, below_step hbel.out (below_drewN _ _ _) hbel.out.size⟩, by simp [intOf]; omega⟩
    · go_wp2
      go_ret
      exact ⟨rfl, below_then HBB.out hbel.out⟩
end Go.Proofs.YtdmpiipllmjloaaGreat
