/- The document's Changes and Unlike. -/
import Derived.Test.YtdnflninbnjdhaaUpJ
namespace Go.Proofs.Ytdnflninbnjdhaa
open Go.RowKit

/-- Changes of the document's and an error. -/
def AnsCr (w : World) (E : Int) (n : Nat) (D : Nat → Int) (m : Nat) (H : Nat → Nat → UInt8) (e : Ending) (w' : World) : Prop :=
  ∃ ao cap T U, e = .returned (.tuple #[.slice ao (lenE E n) cap, .int .i64 E]) ∧ Chr w.heap.size w' ao (lenE E n) cap D T (fun _ => m) U H ∧ Below w.heap.size w w'
theorem ansr_none {w w' : World} {E : Int} {n : Nat} {D : Nat → Int} {m : Nat} {H : Nat → Nat → UInt8} (hE : ¬ E = 0) (hb : Below w.heap.size w w') : AnsCr w E n D m H (.returned (.tuple #[.slice none 0 0, .int .i64 E])) w' := by
  have : lenE E n = 0 := if_neg hE
  refine ⟨none, 0, fun _ => none, fun _ => 0, by rw [this], ?_, hb⟩
  rw [this]; exact chr_nil _ _ _ _ _ _ _
/-- One more change is appended. -/
theorem chr_arm {wa wf w5 : World} {ao : Option Addr} {cap g5 cap5 g u i m : Nat} {P : Nat → Bool} {F : Nat → UInt8} {T : Nat → Option Addr} {U : Nat → Nat} (hP : P i = true)
    (hc : Chr wa.heap.size wf ao (cU P i) cap (fun j => ((sU P i j : Nat) : Int)) T (fun _ => m) U (fun j b => F (sU P i j * m + b))) (hg : Bz wf g m (fun b => F (i * m + b))) (hu : m ≤ u) (hBg : wa.heap.size ≤ g) (hb : Below wa.heap.size wa wf)
    (hown5 : w5.ownsRow wa.heap.size 33 2 (.slice (some ⟨g5, 0, none⟩) (cU P i + 1) cap5) (cU P i + 1) (chOf (fun j => ((sU P i j : Nat) : Int)) T (fun _ => m) U (cU P i) ++ [.int .i64 (i : Int), .slice (some ⟨g, 0, none⟩) m u]))
    (hgrow5 : (wf.alloc (.cells #[.int .i64 (i : Int), .slice (some ⟨g, 0, none⟩) m u] 33)).grownBy w5 (Value.slice ao (cU P i) cap).ownBlock) :
    Chr wa.heap.size w5 (some ⟨g5, 0, none⟩) (cU P (i + 1)) cap5 (fun j => ((sU P (i + 1) j : Nat) : Int)) (put (cU P i) (some ⟨g, 0, none⟩) T) (fun _ => m) (put (cU P i) u U) (fun j b => F (sU P (i + 1) j * m + b)) ∧ Below wa.heap.size wa w5 := by
  have hcg : Chr wa.heap.size wf ao (cU P i) cap (fun j => ((sU P (i + 1) j : Nat) : Int)) T (fun _ => m) U (fun j b => F (sU P (i + 1) j * m + b)) := hc.congr (fun j hj => by rw [sU_lo hj]) (fun j hj b _ => by rw [sU_lo hj])
  rw [chOf_congr (D' := fun j => ((sU P (i + 1) j : Nat) : Int)) (T' := T) (L' := fun _ => m) (U' := U) fun j hj => ⟨by rw [sU_lo hj], rfl, rfl, rfl⟩] at hown5
  rw [cU_yes hP]
  have hgo : Bz wf g m (fun b => F (sU P (i + 1) (cU P i) * m + b)) := by rw [sU_at hP]; exact hg
  refine ⟨(hcg.below (below_alloc _ _)).push (hgo.below (below_alloc _ _)) hu hBg hgrow5 ?_, (below_then hb (below_alloc _ _)).grown hgrow5 (by have := hb.size; simp; omega) (fun r hr => (hc.out.lt r hr).1)⟩
  rw [sU_at hP]
  exact hown5
set_option maxHeartbeats 8000000 in
set_option maxRecDepth 100000 in
theorem other_any {K m : Nat} (R q : Int) (w : World) (ob of on oc : Nat) (O : Nat → UInt8) (hO : Bec w (some ⟨ob, of, none⟩) on oc O) (mb mf mn mc : Nat) (M : Nat → UInt8) (hM : Bec w (some ⟨mb, mf, none⟩) mn mc M) (hon : on = K * m) (hmn : mn = K * m) (hK : K ≤ 12) (hc1 : 8 ≤ m) (hc2 : m ≤ 64) :
    Calls Try.prog 20 #[.agg #[.int .i64 (K : Int), .int .i64 R, .int .i64 (m : Int), .int .i64 q], .slice (some ⟨ob, of, none⟩) on oc, .slice (some ⟨mb, mf, none⟩) mn mc] w fun e w' => ∃ ao cap T U, e = .returned (.slice ao (cU (dfB m O M) K) cap) ∧ Chr w.heap.size w' ao (cU (dfB m O M) K) cap (fun i => ((sU (dfB m O M) K i : Nat) : Int)) T (fun _ => m) U (fun i b => M (sU (dfB m O M) K i * m + b)) ∧ Below w.heap.size w w' := by
  obtain ⟨j0, hj, hj0, hj1, hj2⟩ := info_parts info33
  obtain ⟨wa, hw0⟩ : ∃ w0, w0 = w.alloc (.cells #[.int .i64 (K : Int), .int .i64 R, .int .i64 (m : Int), .int .i64 q] 23) := ⟨_, rfl⟩
  have B0 : Hid (Below w.heap.size w wa) := by show Below _ _ _; rw [hw0]; exact below_alloc _ _
  have HPAR : Hid (∀ v, Below wa.heap.size wa v → v.cell? ⟨w.heap.size, 0, none⟩ = some (.int .i64 (K : Int)) ∧ v.cell? ⟨w.heap.size, 1, none⟩ = some (.int .i64 R) ∧ v.cell? ⟨w.heap.size, 2, none⟩ = some (.int .i64 (m : Int)) ∧ v.cell? ⟨w.heap.size, 3, none⟩ = some (.int .i64 q)) := fun v hv => par_held hw0 hv
  have HOB : Hid (∀ v, Below w.heap.size w v → Bec v (some ⟨ob, of, none⟩) on oc O) := fun v hv => hO.below hv
  have HMB : Hid (∀ v, Below w.heap.size w v → Bec v (some ⟨mb, mf, none⟩) mn mc M) := fun v hv => hM.below hv
  have HON : Hid (on = K * m) := hon
  have HMN : Hid (mn = K * m) := hmn
  have hOC := hO.room
  have hMC := hM.room
  obtain ⟨P, hP⟩ : ∃ P, P = dfB m O M := ⟨_, rfl⟩
  have HP : Hid (∀ i, P i = !eqB m (fun j => O (i * m + j)) (fun j => M (i * m + j))) := by rw [hP]; exact fun i => rfl
  rw [← hP]
  clear hO hM hon hmn hP
  go_enter Try.func20, Try.ntmps20
  go_wp2_with fail
  rw [← hw0]
  clear hw0
  go_wp2_with fail
  go_loopw [7, 8] (fun l y wr => ∃ i : Nat, i ≤ K ∧ y = .int .i64 (i : Int) ∧ ∃ ao cap T U, l = .slice ao (cU P i) cap ∧ Hid (Chr wa.heap.size wr ao (cU P i) cap (fun j => ((sU P i j : Nat) : Int)) T (fun _ => m) U (fun j b => M (sU P i j * m + b))) ∧ Hid (Below wa.heap.size wa wr)) (fun _ y _ => K - (intOf y).toNat)
  case atStart => exact ⟨0, Nat.zero_le _, rfl, none, 0, fun _ => none, fun _ => 0, rfl, chr_nil _ _ _ _ _ _ _, Below.refl _ _⟩
  case round =>
    obtain ⟨i, hi, rfl, ao, cap, T, U, rfl, hchs, hbel⟩ := hrel
    obtain ⟨a0, _, a2, _⟩ := HPAR.out wr hbel.out
    by_cases hlt : i < K
    · have hm0 : 0 < m := by omega
      have BW : Below w.heap.size w wr := below_then B0.out hbel.out
      have hsm : i * m + m ≤ K * m := by rw [← Nat.succ_mul]; exact Nat.mul_le_mul_right m hlt
      obtain ⟨p, hp⟩ : ∃ p, p = i * m := ⟨_, rfl⟩
      have hp1 : p + m = (i + 1) * m := by rw [hp, Nat.succ_mul]
      have hpon : p + m ≤ on := by rw [HON.out, hp]; exact hsm
      have hpmn : p + m ≤ mn := by rw [HMN.out, hp]; exact hsm
      have hp3 : p + m ≤ 1024 := by rw [hp1]; exact Nat.le_trans (Nat.mul_le_mul (show i + 1 ≤ 12 by omega) hc2) (by decide)
      obtain ⟨v1, v3⟩ := val_mul hp (by omega)
      obtain ⟨v2, v4⟩ := val_mul2 hp1 (by omega)
      have h1 : Bec wr (some ⟨ob, of + p, none⟩) m (oc - p) (fun j => O (p + j)) := bec_cut2 (HOB.out wr BW) hpon hm0
      have h2 : Bec wr (some ⟨mb, mf + p, none⟩) m (mc - p) (fun j => M (p + j)) := bec_cut2 (HMB.out wr BW) hpmn hm0
      have y1 := conv_any h1
      have y2 := conv_any h2
      have hPi := HP.out i
      rw [← hp] at hPi
      have hst : ((sOf (lsF m (fun j => O (p + j)))).toList == (sOf (lsF m (fun j => M (p + j)))).toList) = eqB m (fun j => O (p + j)) (fun j => M (p + j)) := by
        rw [str_eq]; unfold eqB; exact decide_eq_decide.2 (lsF_eq.trans ⟨fun h => h.2, fun h => ⟨rfl, h⟩⟩)
      obtain ⟨y, hy⟩ : ∃ y, y = eqB m (fun j => O (p + j)) (fun j => M (p + j)) := ⟨_, rfl⟩
      rw [← hy] at hPi hst
      have i1 : (0 : Int) ≤ (p : Int) := by omega
      have i2 : (p : Int) ≤ (p : Int) + (m : Int) := by omega
      have i3 : (p : Int) + (m : Int) ≤ (oc : Int) := by omega
      have i3' : (p : Int) + (m : Int) ≤ (mc : Int) := by omega
      have i4 : ¬ (p : Int) + (m : Int) < 0 := by omega
      have i5 : ¬ oc = p := by omega
      have i6 : ¬ mc = p := by omega
      have HPP : Hid (p = i * m) := hp
      have hcU := cU_le P i
      clear hp hp1 hsm hy h1
      cases y
      · have HPI : Hid (P i = true) := hPi
        obtain ⟨wf, u, hrun, hz, hmu, hbz, hsz⟩ := conv_newz wr m (fun j => M (p + j))
        have q1 : ((sOf (lsF m (fun j => O (p + j)))).toList != (sOf (lsF m (fun j => M (p + j)))).toList) = true := by rw [bne, hst]; rfl
        have HCH : Hid (Chr wa.heap.size wf ao (cU P i) cap (fun j => ((sU P i j : Nat) : Int)) T (fun _ => m) U (fun j b => M (sU P i j * m + b))) := hchs.out.below hbz
        have HWF : Hid (Below wa.heap.size wa wf) := below_then hbel.out hbz
        obtain ⟨xs, hxs⟩ : ∃ xs, xs = chOf (fun j => ((sU P i j : Nat) : Int)) T (fun _ => m) U (cU P i) := ⟨_, rfl⟩
        have HXO : Hid (wf.ownsRow wa.heap.size 33 2 (.slice ao (cU P i) cap) (cU P i) xs) := by show World.ownsRow _ _ _ _ _ _ _; rw [hxs]; exact HCH.out.out
        have HXS : Hid (xs = chOf (fun j => ((sU P i j : Nat) : Int)) T (fun _ => m) U (cU P i)) := hxs
        have HZ : Hid (Bz wf wr.heap.size m (fun b => M (i * m + b))) := by rw [← HPP.out]; exact hz
        have HSR : Hid (wa.heap.size ≤ wr.heap.size) := hbel.out.size
        have HCY : Hid (cU P (i + 1) = cU P i + 1) := cU_yes HPI.out
        have q2 : ¬ (sOf (lsF m (fun j => O (p + j)))).toList = (sOf (lsF m (fun j => M (p + j)))).toList := by
          intro e
          rw [e] at hst
          simp at hst
        have q3 : ¬ sOf (lsF m (fun j => O (p + j))) = sOf (lsF m (fun j => M (p + j))) := fun e => q2 (by rw [e])
        have q4 : ¬ lsF m (fun j => O (p + j)) = lsF m (fun j => M (p + j)) := fun e => q3 (by rw [e])
        clear hPi hxs hz hbz hchs hbel BW h2
        go_wp2_with (at_builtin; refine wpList_append_lies _ (by rfl) (.tmp 42) (.tmp 47) 26 (by rfl) wa.heap.size 33 j0 (.agg #[.int .i64 0, .slice none 0 0]) 2 32 Try.underlying26 hj hj0 hj1 hj2 (by rfl) (by decide) (.slice ao (cU P i) cap) (cU P i) xs (by rfl) (owns_below HXO.out (below_alloc _ _)) ⟨wf.heap.size, 0, none⟩ 1 1 [.int .i64 (i : Int), .slice (some ⟨wr.heap.size, 0, none⟩) m u] (by simp [Act.eval]) (by rfl) (World.news_of_block (heap_alloc_new wf _)) (by simp [Value.oneCell']) (by decide) (by unfold maxLen; omega) (by omega) (by have := HWF.out.size; simp; omega) (wf.heap.size + 1) (by simp) ?_; intro g5 cap5 w5 hown5 hgrow5 _ _
                     have HO5 : Hid _ := And.intro trivial (chr_arm HPI.out HCH.out HZ.out hmu HSR.out HWF.out (HXS.out ▸ hown5) hgrow5)
                     clear hown5 hgrow5)
        go_roundw
        case rel => exact ⟨i + 1, by omega, by go_num, _, cap5, _, _, by rw [HCY.out], HO5.out.2.1, HO5.out.2.2⟩
        case measure => simp [intOf]; omega
      · have HPI : Hid (P i = false) := hPi
        have q4 : lsF m (fun j => M (p + j)) = lsF m (fun j => O (p + j)) := by
          have : (sOf (lsF m (fun j => O (p + j)))).toList = (sOf (lsF m (fun j => M (p + j)))).toList := by simpa using hst
          rw [sOf_list, sOf_list] at this
          exact this.symm
        rw [q4] at y2
        have q1 : ((sOf (lsF m (fun j => O (p + j)))).toList != (sOf (lsF m (fun j => O (p + j)))).toList) = false := by simp
        have HB1 : Hid (Below wa.heap.size wa wr) := hbel.out
        clear hPi BW h2 hst q4
        go_wp2_with fail
        go_roundw
        case rel =>
          refine ⟨i + 1, by omega, by go_num, ao, cap, T, U, by rw [cU_no HPI.out], ?_, HB1.out⟩
          rw [cU_no HPI.out]
          exact hchs.out.congr (fun j hj => by rw [sU_lo hj]) (fun j hj b _ => by rw [sU_lo hj])
        case measure => simp [intOf]; omega
    · obtain rfl : i = K := by omega
      go_wp2_with fail
      go_ret
      exact ⟨ao, cap, T, U, rfl, hchs.out.mono B0.out.size, below_then B0.out hbel.out⟩
set_option maxHeartbeats 8000000 in
set_option maxRecDepth 100000 in
theorem meet_any {K m : Nat} (R q : Int) (w : World) (ob of on oc : Nat) (O : Nat → UInt8) (hO : Bec w (some ⟨ob, of, none⟩) on oc O) (o : Nat) (mo : Option Addr) (mn mc : Nat) (M : Nat → UInt8) (hM : Bec w mo mn mc M) (hon : on = K * m) (ho : o + mn ≤ on) (hK : K ≤ 12) (hc1 : 8 ≤ m) (hc2 : m ≤ 64) :
    Calls Try.prog 18 #[.agg #[.int .i64 (K : Int), .int .i64 R, .int .i64 (m : Int), .int .i64 q], .slice (some ⟨ob, of, none⟩) on oc, .int .i64 (o : Int), .slice mo mn mc] w fun e w' => ∃ ao cap T U, e = .returned (.slice ao (cU (mtB m o mn) K) cap) ∧ Chr w.heap.size w' ao (cU (mtB m o mn) K) cap (fun i => ((sU (mtB m o mn) K i : Nat) : Int)) T (fun _ => m) U (fun i b => upR O o mn M (sU (mtB m o mn) K i * m + b)) ∧ Below w.heap.size w w' := by
  obtain ⟨j0, hj, hj0, hj1, hj2⟩ := info_parts info33
  obtain ⟨w0, hw0⟩ : ∃ w0, w0 = w.alloc (.cells #[.int .i64 (K : Int), .int .i64 R, .int .i64 (m : Int), .int .i64 q] 23) := ⟨_, rfl⟩
  have B0 : Hid (Below w.heap.size w w0) := by show Below _ _ _; rw [hw0]; exact below_alloc _ _
  have HPAR : Hid (∀ v, Below w0.heap.size w0 v → v.cell? ⟨w.heap.size, 0, none⟩ = some (.int .i64 (K : Int)) ∧ v.cell? ⟨w.heap.size, 1, none⟩ = some (.int .i64 R) ∧ v.cell? ⟨w.heap.size, 2, none⟩ = some (.int .i64 (m : Int)) ∧ v.cell? ⟨w.heap.size, 3, none⟩ = some (.int .i64 q)) := fun v hv => par_held hw0 hv
  have hn768 : on ≤ 768 := by rw [hon]; exact Nat.le_trans (Nat.mul_le_mul hK hc2) (by decide)
  have HON : Hid (on = K * m) := hon
  have HP : Hid (∀ i, mtB m o mn i = decide (0 < mn ∧ i * m < o + mn ∧ o < (i + 1) * m)) := fun i => rfl
  obtain ⟨P, hP⟩ : ∃ P, P = mtB m o mn := ⟨_, rfl⟩
  obtain ⟨Wt, hWt⟩ : ∃ Wt, Wt = upR O o mn M := ⟨_, rfl⟩
  have v1 : ∀ x, _ := fun x => conv_any (hO.below (below_alloc w x))
  obtain ⟨w1, cc, hrun1, hz1, hcc, hb1, hs1⟩ := conv_newz w0 on O
  obtain ⟨dst, hdst⟩ : ∃ dst : Value, dst = if cc = o then .slice (some ⟨w0.heap.size, 0, none⟩) 0 0 else .slice (some ⟨w0.heap.size, o, none⟩) (on - o) (cc - o) := ⟨_, rfl⟩
  have hcopy : ∃ w2, (Builtin.copy_ #[24, 24] 3 #[dst, .slice mo mn mc]).run Try.prog w1 = .ok (goInt mn) w2 ∧ Bz w2 w0.heap.size on Wt ∧ Only (fun b => b = w0.heap.size) w1 w2 := by
    rw [hWt, hdst]
    by_cases e : cc = o
    · rw [if_pos e]; exact run_copy_zero hz1 (by omega)
    · rw [if_neg e]; exact run_copy_any hz1 (hM.below (below_then B0.out hb1)) (by omega) (by omega)
  obtain ⟨wa, hrun2, hz2, ho2⟩ := hcopy
  have HB2 : Hid (Below w0.heap.size w0 wa) := hb1.trans (ho2.below (fun _ e => by rw [e]; exact Nat.le_refl _) hb1.size)
  have HZ2 : Hid (Bz wa w0.heap.size on Wt) := hz2
  rw [hw0] at hrun1
  have i1 : (0 : Int) ≤ (o : Int) := by omega
  have i2 : (o : Int) ≤ (on : Int) := by omega
  have i3 : (o : Int) ≤ (cc : Int) := by omega
  rw [← hP, ← hWt]
  rw [← hP] at HP
  have HS0 : Hid (w.alloc (.cells #[.int .i64 (K : Int), .int .i64 R, .int .i64 (m : Int), .int .i64 q] 23) = w0) := hw0.symm
  have hz0 : w0.heap.size = w.heap.size + 1 := by rw [hw0]; simp
  have HZ0 : Hid (w0.heap.size = w.heap.size + 1) := hz0
  clear hO hM hon hP hWt hz1 hz2 ho2 hb1 hs1 hw0
  rw [hz0] at hdst
  by_cases hco : cc = o
  · have hmn0 : mn = 0 := by omega
    rw [if_pos hco] at hdst
    have hco3 : on = o := by omega
    have hco2 : o = cc := hco.symm
    clear hco hz0
    subst hmn0
    subst hco2
    subst hco3
    subst hdst
    clear i1 i2 i3 ho hcc
    go_enter Try.func18, Try.ntmps18
    go_wp2_with fail
    clear hrun1 hrun2 v1
    go_loopw [10, 11] (fun l y wr => ∃ i : Nat, i ≤ K ∧ y = .int .i64 (i : Int) ∧ ∃ ao cap T U, l = .slice ao (cU P i) cap ∧ Hid (Chr wa.heap.size wr ao (cU P i) cap (fun j => ((sU P i j : Nat) : Int)) T (fun _ => m) U (fun j b => Wt (sU P i j * m + b))) ∧ Hid (Below wa.heap.size wa wr)) (fun _ y _ => K - (intOf y).toNat)
    case atStart => exact ⟨0, Nat.zero_le _, rfl, none, 0, fun _ => none, fun _ => 0, rfl, chr_nil _ _ _ _ _ _ _, Below.refl _ _⟩
    case round =>
      obtain ⟨i, hi, rfl, ao, cap, T, U, rfl, hchs, hbel⟩ := hrel
      obtain ⟨a0, _, a2, _⟩ := HPAR.out wr (below_then HB2.out hbel.out)
      by_cases hlt : i < K
      · have hm0 : 0 < m := by omega
        have hsm : i * m + m ≤ K * m := by rw [← Nat.succ_mul]; exact Nat.mul_le_mul_right m hlt
        obtain ⟨p, hp⟩ : ∃ p, p = i * m := ⟨_, rfl⟩
        have hp1 : p + m = (i + 1) * m := by rw [hp, Nat.succ_mul]
        have hpon : p + m ≤ on := by rw [HON.out, hp]; exact hsm
        obtain ⟨v1, v3⟩ := val_mul hp (by omega)
        obtain ⟨v2, v4⟩ := val_mul2 hp1 (by omega)
        have HPP : Hid (p = i * m) := hp
        have hPi := HP.out i
        rw [← hp1, ← hp] at hPi
        have hcU := cU_le P i
        clear hp hp1 hsm
        have t1' : ¬ (0 : Int) < ((0 : Nat) : Int) := by omega
        have HPI : Hid (P i = false) := by show _ = _; rw [hPi]; exact decide_eq_false (by omega)
        clear hPi
        go_wp2_with fail
        go_roundw
        case rel =>
          refine ⟨i + 1, by omega, by go_num, ao, cap, T, U, by rw [cU_no HPI.out], ?_, hbel.out⟩
          rw [cU_no HPI.out]
          exact hchs.out.congr (fun j hj => by rw [sU_lo hj]) (fun j hj b _ => by rw [sU_lo hj])
        case measure => simp [intOf]; omega
      · obtain rfl : i = K := by omega
        go_wp2_with fail
        go_ret
        exact ⟨ao, cap, T, U, rfl, hchs.out.mono (Nat.le_trans B0.out.size HB2.out.size), below_then B0.out (below_then HB2.out hbel.out)⟩
  · rw [if_neg hco] at hdst
    subst hdst
    clear hz0
    go_enter Try.func18, Try.ntmps18
    go_wp2_with fail
    clear hrun1 hrun2 v1
    go_loopw [10, 11] (fun l y wr => ∃ i : Nat, i ≤ K ∧ y = .int .i64 (i : Int) ∧ ∃ ao cap T U, l = .slice ao (cU P i) cap ∧ Hid (Chr wa.heap.size wr ao (cU P i) cap (fun j => ((sU P i j : Nat) : Int)) T (fun _ => m) U (fun j b => Wt (sU P i j * m + b))) ∧ Hid (Below wa.heap.size wa wr)) (fun _ y _ => K - (intOf y).toNat)
    case atStart => exact ⟨0, Nat.zero_le _, rfl, none, 0, fun _ => none, fun _ => 0, rfl, chr_nil _ _ _ _ _ _ _, Below.refl _ _⟩
    case round =>
      obtain ⟨i, hi, rfl, ao, cap, T, U, rfl, hchs, hbel⟩ := hrel
      obtain ⟨a0, _, a2, _⟩ := HPAR.out wr (below_then HB2.out hbel.out)
      by_cases hlt : i < K
      · have hm0 : 0 < m := by omega
        have hsm : i * m + m ≤ K * m := by rw [← Nat.succ_mul]; exact Nat.mul_le_mul_right m hlt
        obtain ⟨p, hp⟩ : ∃ p, p = i * m := ⟨_, rfl⟩
        have hp1 : p + m = (i + 1) * m := by rw [hp, Nat.succ_mul]
        have hpon : p + m ≤ on := by rw [HON.out, hp]; exact hsm
        obtain ⟨v1, v3⟩ := val_mul hp (by omega)
        obtain ⟨v2, v4⟩ := val_mul2 hp1 (by omega)
        have HPP : Hid (p = i * m) := hp
        have hPi := HP.out i
        rw [← hp1, ← hp] at hPi
        have hcU := cU_le P i
        clear hp hp1 hsm
        by_cases t1 : 0 < mn
        · have t1' : (0 : Int) < (mn : Int) := by omega
          by_cases t2 : (p : Int) < (o : Int) + (mn : Int)
          · by_cases t3 : (o : Int) < (p : Int) + (m : Int)
            · have HPI : Hid (P i = true) := by show _ = _; rw [hPi]; exact decide_eq_true ⟨by omega, by omega, by omega⟩
              have h2 : Bec wr (some ⟨w.heap.size + 1, p, none⟩) m (cc - p) (fun j => Wt (p + j)) := by have := bec_cut2 ((HZ2.out.below hbel.out).bec hcc) hpon hm0; rwa [Nat.zero_add, HZ0.out] at this
              have y2 := conv_any h2
              obtain ⟨wf, u, hrun, hz, hmu, hbz, hsz⟩ := conv_newz wr m (fun j => Wt (p + j))
              have HCH : Hid (Chr wa.heap.size wf ao (cU P i) cap (fun j => ((sU P i j : Nat) : Int)) T (fun _ => m) U (fun j b => Wt (sU P i j * m + b))) := hchs.out.below hbz
              have HWF : Hid (Below wa.heap.size wa wf) := below_then hbel.out hbz
              obtain ⟨xs, hxs⟩ : ∃ xs, xs = chOf (fun j => ((sU P i j : Nat) : Int)) T (fun _ => m) U (cU P i) := ⟨_, rfl⟩
              have HXO : Hid (wf.ownsRow wa.heap.size 33 2 (.slice ao (cU P i) cap) (cU P i) xs) := by show World.ownsRow _ _ _ _ _ _ _; rw [hxs]; exact HCH.out.out
              have HXS : Hid (xs = chOf (fun j => ((sU P i j : Nat) : Int)) T (fun _ => m) U (cU P i)) := hxs
              have HZ : Hid (Bz wf wr.heap.size m (fun b => Wt (i * m + b))) := by rw [← HPP.out]; exact hz
              have HSR : Hid (wa.heap.size ≤ wr.heap.size) := hbel.out.size
              have HCY : Hid (cU P (i + 1) = cU P i + 1) := cU_yes HPI.out
              have i4 : (0 : Int) ≤ (p : Int) := by omega
              have i5 : (p : Int) ≤ (p : Int) + (m : Int) := by omega
              have i6 : (p : Int) + (m : Int) ≤ (cc : Int) := by omega
              have i7 : ¬ (p : Int) + (m : Int) < 0 := by omega
              have i8 : ¬ cc = p := by omega
              clear hPi hxs hz hbz hchs hbel h2
              go_wp2_with (at_builtin; refine wpList_append_lies _ (by rfl) (.tmp 49) (.tmp 65) 26 (by rfl) wa.heap.size 33 j0 (.agg #[.int .i64 0, .slice none 0 0]) 2 32 Try.underlying26 hj hj0 hj1 hj2 (by rfl) (by decide) (.slice ao (cU P i) cap) (cU P i) xs (by rfl) (owns_below HXO.out (below_alloc _ _)) ⟨wf.heap.size, 0, none⟩ 1 1 [.int .i64 (i : Int), .slice (some ⟨wr.heap.size, 0, none⟩) m u] (by simp [Act.eval]) (by rfl) (World.news_of_block (heap_alloc_new wf _)) (by simp [Value.oneCell']) (by decide) (by unfold maxLen; omega) (by omega) (by have := HWF.out.size; simp; omega) (wf.heap.size + 1) (by simp) ?_; intro g5 cap5 w5 hown5 hgrow5 _ _
                           have HO5 : Hid _ := And.intro trivial (chr_arm HPI.out HCH.out HZ.out hmu HSR.out HWF.out (HXS.out ▸ hown5) hgrow5)
                           clear hown5 hgrow5)
              go_roundw
              case rel => exact ⟨i + 1, by omega, by go_num, _, cap5, _, _, by rw [HCY.out], HO5.out.2.1, HO5.out.2.2⟩
              case measure => simp [intOf]; omega
            · have HPI : Hid (P i = false) := by show _ = _; rw [hPi]; exact decide_eq_false (by omega)
              clear hPi
              go_wp2_with fail
              go_roundw
              case rel =>
                refine ⟨i + 1, by omega, by go_num, ao, cap, T, U, by rw [cU_no HPI.out], ?_, hbel.out⟩
                rw [cU_no HPI.out]
                exact hchs.out.congr (fun j hj => by rw [sU_lo hj]) (fun j hj b _ => by rw [sU_lo hj])
              case measure => simp [intOf]; omega
          · have HPI : Hid (P i = false) := by show _ = _; rw [hPi]; exact decide_eq_false (by omega)
            clear hPi
            go_wp2_with fail
            go_roundw
            case rel =>
              refine ⟨i + 1, by omega, by go_num, ao, cap, T, U, by rw [cU_no HPI.out], ?_, hbel.out⟩
              rw [cU_no HPI.out]
              exact hchs.out.congr (fun j hj => by rw [sU_lo hj]) (fun j hj b _ => by rw [sU_lo hj])
            case measure => simp [intOf]; omega
        · have t1' : ¬ (0 : Int) < (mn : Int) := by omega
          have HPI : Hid (P i = false) := by show _ = _; rw [hPi]; exact decide_eq_false (by omega)
          clear hPi
          go_wp2_with fail
          go_roundw
          case rel =>
            refine ⟨i + 1, by omega, by go_num, ao, cap, T, U, by rw [cU_no HPI.out], ?_, hbel.out⟩
            rw [cU_no HPI.out]
            exact hchs.out.congr (fun j hj => by rw [sU_lo hj]) (fun j hj b _ => by rw [sU_lo hj])
          case measure => simp [intOf]; omega
      · obtain rfl : i = K := by omega
        go_wp2_with fail
        go_ret
        exact ⟨ao, cap, T, U, rfl, hchs.out.mono (Nat.le_trans B0.out.size HB2.out.size), below_then B0.out (below_then HB2.out hbel.out)⟩
/-- What the document finds met is what is met. -/
theorem chr_met {B K m o nn : Nat} {w : World} {ao : Option Addr} {cap : Nat} {T : Nat → Option Addr} {U : Nat → Nat} {O M : Nat → UInt8} (hm : 0 < m) (ho : o + nn ≤ K * m) (h : Chr B w ao (cU (mtB m o nn) K) cap (fun i => ((sU (mtB m o nn) K i : Nat) : Int)) T (fun _ => m) U (fun i b => upR O o nn M (sU (mtB m o nn) K i * m + b))) :
    cU (mtB m o nn) K = nCh o nn m ∧ Chr B w ao (cU (mtB m o nn) K) cap (fun i => ((o / m + i : Nat) : Int)) T (fun _ => m) U (chB O M o nn m) := by
  have hi := fun i => mt_int (o := o) (nn := nn) hm i
  have hc := cU_int hi K
  have hle : o / m + nCh o nn m ≤ K ∨ nCh o nn m = 0 := by
    by_cases e : nn = 0
    · right; unfold nCh; rw [if_pos e]
    · left
      have h1 : (o + nn - 1) / m < K := (Nat.div_lt_iff_lt_mul hm).2 (by omega)
      have h3 : o / m ≤ (o + nn - 1) / m := Nat.div_le_div_right (by omega)
      unfold nCh
      rw [if_neg e]
      omega
  refine ⟨by rw [hc]; omega, h.congr (fun i hi' => ?_) (fun i hi' b _ => ?_)⟩
  · rw [sU_int hi hi']
  · rw [sU_int hi hi']; rfl
set_option maxHeartbeats 4000000 in
set_option maxRecDepth 100000 in
theorem RChanges_any {k r c q : Int} {N W : Nat} {x : Int} (h : Par k r c q N W x) (w : World) (oo : Option Addr) (on oc : Nat) (O : Nat → UInt8) (hO : Bec w oo on oc O) (a : Int) (mo : Option Addr) (mn mc : Nat) (M : Nat → UInt8) (hM : Bec w mo mn mc M) (E : Int) (hE : erCh x W on a mn = E) :
    Calls Try.prog 7 #[.agg #[.int .i64 k, .int .i64 r, .int .i64 c, .int .i64 q], .slice oo on oc, .int .i64 a, .slice mo mn mc] w (AnsCr w E (nCh a.toNat mn c.toNat) (fun i => ((a.toNat / c.toNat + i : Nat) : Int)) c.toNat (chB O M a.toNat mn c.toNat)) := by
  have HMY := fun w => May_any k r c q w
  have HWY := fun w => W_any k r c q w
  have hWw := h.wide
  obtain ⟨w0, hw0⟩ : ∃ w0, w0 = w.alloc (.cells #[.int .i64 k, .int .i64 r, .int .i64 c, .int .i64 q] 23) := ⟨_, rfl⟩
  have b0 : Below w.heap.size w w0 := by rw [hw0]; exact below_alloc _ _
  by_cases hx : x = 0
  · subst hx
    have hm1 : may k r c q = true := by
      rcases h with ⟨hm, _⟩ | ⟨_, _, _, h0⟩
      · exact hm
      · exact absurd h0 (by decide)
    rw [hm1] at HMY
    obtain ⟨K, R, m, Q, rfl, rfl, rfl, rfl, k1, k2, r1, m1, m2, hW, hN, hW32, _, _⟩ := h.nums4
    have hww : wrap64 ((K : Int) * (m : Int)) = (W : Int) := by rw [← Int.natCast_mul, ← hW, w64 _ ⟨by omega, by omega⟩]
    rw [hww] at HWY
    clear hm1 hww h
    unfold erCh at hE
    rw [if_pos rfl] at hE
    by_cases h1 : on = W
    · rw [if_pos h1] at hE
      have q1 : ((on : Int) != (W : Int)) = false := by rw [h1]; simp
      have hon768 : on ≤ 768 := by omega
      by_cases h2 : 0 ≤ a ∧ a ≤ (W : Int)
      · rw [if_pos h2] at hE
        by_cases h3 : (mn : Int) ≤ (W : Int) - a
        · rw [if_pos h3] at hE
          subst hE
          obtain ⟨o, rfl⟩ := Int.eq_ofNat_of_zero_le h2.1
          obtain ⟨ob, of, rfl, _⟩ := hO.rd (by omega)
          have HME : Hid (∀ u, Below w.heap.size w u → Calls Try.prog 18 #[.agg #[.int .i64 (K : Int), .int .i64 (R : Int), .int .i64 (m : Int), .int .i64 (Q : Int)], .slice (some ⟨ob, of, none⟩) on oc, .int .i64 (o : Int), .slice mo mn mc] u fun e w' => ∃ ao cap T U, e = .returned (.slice ao (nCh o mn m) cap) ∧ Chr u.heap.size w' ao (nCh o mn m) cap (fun i => ((o / m + i : Nat) : Int)) T (fun _ => m) U (chB O M o mn m) ∧ Below u.heap.size u w') := fun u hu => by
            refine (meet_any (R : Int) (Q : Int) u ob of on oc O (hO.below hu) o mo mn mc M (hM.below hu) (h1.trans hW) (by omega) k2 m1 m2).mono ?_
            rintro e w' ⟨ao, cap, T, U, rfl, hc, hb⟩
            obtain ⟨e1, e2⟩ := chr_met (by omega) (by omega) hc
            rw [e1] at e2
            exact ⟨ao, cap, T, U, by rw [e1], e2, hb⟩
          have q2 : (0 : Int) ≤ (o : Int) := by omega
          have q3 : (o : Int) ≤ (on : Int) := by omega
          have q4 : (mn : Int) ≤ (on : Int) - (o : Int) := by omega
          have q5 : decide ((o : Int) < 0) = false := decide_eq_false (by omega)
          have q6 : decide ((on : Int) - (o : Int) < (mn : Int)) = false := decide_eq_false (by omega)
          have q7 : decide ((on : Int) < (o : Int)) = false := decide_eq_false (by omega)
          have q8 : decide (on < o) = false := decide_eq_false (by omega)
          rw [Int.toNat_natCast, Int.toNat_natCast]
          have HL : Hid (lenE 0 (nCh o mn m) = nCh o mn m) := if_pos rfl
          clear hO hM hW h1 h2 h3
          go_enter Try.func7, Try.ntmps7
          go_wp2_with fail
          rw [← hw0]
          refine (HMY _).mono ?_
          rintro e wa ⟨rfl, ha⟩
          obtain ⟨s0, s1, s2, s3⟩ := par_held hw0 ha
          go_wp2_with fail
          refine (HWY _).mono ?_
          rintro e wb ⟨rfl, hb⟩
          clear s0 s1 s2 s3
          obtain ⟨s0, s1, s2, s3⟩ := par_held hw0 (below_then ha hb)
          have HB : Hid (Below w.heap.size w wb) := below_then b0 (below_then ha hb)
          clear ha hb hw0 b0
          go_wp2_with fail
          refine (HME.out _ HB.out).mono ?_
          rintro e wc ⟨ao, cap, T, U, rfl, hch, hc⟩
          have HC : Hid (Chr wb.heap.size wc ao (nCh o mn m) cap (fun i => ((o / m + i : Nat) : Int)) T (fun _ => m) U (chB O M o mn m) ∧ Below wb.heap.size wb wc) := ⟨hch, hc⟩
          clear hch hc
          go_wp2_with fail
          go_ret2
          refine ⟨ao, cap, T, U, ?_, ?_, below_then HB.out HC.out.2⟩
          · rw [HL.out]; rfl
          · rw [HL.out]; exact HC.out.1.mono HB.out.size
        · rw [if_neg h3] at hE
          subst hE
          have q2 : (0 : Int) ≤ a := by omega
          have q3 : a ≤ (on : Int) := by omega
          have q4 : (on : Int) - a < (mn : Int) := by omega
          have q5 : decide (a < 0) = false := decide_eq_false (by omega)
          have q6 : decide ((on : Int) - a < (mn : Int)) = true := decide_eq_true q4
          have q7 : decide ((on : Int) < a) = false := decide_eq_false (by omega)
          clear h2 h3 hW h1
          go_enter Try.func7, Try.ntmps7
          go_wp2_with fail
          rw [← hw0]
          refine (HMY _).mono ?_
          rintro e wa ⟨rfl, ha⟩
          obtain ⟨s0, s1, s2, s3⟩ := par_held hw0 ha
          go_wp2_with fail
          refine (HWY _).mono ?_
          rintro e wb ⟨rfl, hb⟩
          go_wp2_with fail
          go_ret2
          exact ansr_none (by decide) (below_then b0 (below_then ha hb))
      · rw [if_neg h2] at hE
        subst hE
        have q5 : (a < 0) ∨ (¬ a < 0 ∧ (on : Int) < a) := by omega
        clear h2 hW h1
        rcases q5 with q5 | ⟨q5, q6⟩
        all_goals (
          go_enter Try.func7, Try.ntmps7
          go_wp2_with fail
          rw [← hw0]
          refine (HMY _).mono ?_
          rintro e wa ⟨rfl, ha⟩
          obtain ⟨s0, s1, s2, s3⟩ := par_held hw0 ha
          go_wp2_with fail
          refine (HWY _).mono ?_
          rintro e wb ⟨rfl, hb⟩
          go_wp2_with fail
          go_ret2
          exact ansr_none (by decide) (below_then b0 (below_then ha hb)))
    · rw [if_neg h1] at hE
      subst hE
      have q1 : ((on : Int) != (W : Int)) = true := by simp; omega
      clear hW h1
      go_enter Try.func7, Try.ntmps7
      go_wp2_with fail
      rw [← hw0]
      refine (HMY _).mono ?_
      rintro e wa ⟨rfl, ha⟩
      obtain ⟨s0, s1, s2, s3⟩ := par_held hw0 ha
      go_wp2_with fail
      refine (HWY _).mono ?_
      rintro e wb ⟨rfl, hb⟩
      go_wp2_with fail
      go_ret2
      exact ansr_none (by decide) (below_then b0 (below_then ha hb))
  · have hm1 : may k r c q = false ∧ x = 2 := by
      rcases h with ⟨_, _, _, h0⟩ | ⟨hm, _, _, h0⟩
      · exact absurd h0 hx
      · exact ⟨hm, h0⟩
    obtain ⟨hm1, rfl⟩ := hm1
    rw [hm1] at HMY
    obtain rfl : (2 : Int) = E := hE
    clear h HWY
    go_enter Try.func7, Try.ntmps7
    go_wp2_with fail
    rw [← hw0]
    refine (HMY _).mono ?_
    rintro e wa ⟨rfl, ha⟩
    go_wp2_with fail
    go_ret2
    exact ansr_none (by decide) (below_then b0 ha)
set_option maxHeartbeats 4000000 in
set_option maxRecDepth 100000 in
theorem RUnlike_any {k r c q : Int} {N W : Nat} {x : Int} (h : Par k r c q N W x) (w : World) (oo : Option Addr) (on oc : Nat) (O : Nat → UInt8) (hO : Bec w oo on oc O) (mo : Option Addr) (mn mc : Nat) (M : Nat → UInt8) (hM : Bec w mo mn mc M) (E : Int) (hE : erUn x W on mn = E) :
    Calls Try.prog 9 #[.agg #[.int .i64 k, .int .i64 r, .int .i64 c, .int .i64 q], .slice oo on oc, .slice mo mn mc] w (AnsCr w E (cU (dfB c.toNat O M) k.toNat) (fun i => ((sU (dfB c.toNat O M) k.toNat i : Nat) : Int)) c.toNat (fun i b => M (sU (dfB c.toNat O M) k.toNat i * c.toNat + b))) := by
  have HMY := fun w => May_any k r c q w
  have HWY := fun w => W_any k r c q w
  have hWw := h.wide
  obtain ⟨w0, hw0⟩ : ∃ w0, w0 = w.alloc (.cells #[.int .i64 k, .int .i64 r, .int .i64 c, .int .i64 q] 23) := ⟨_, rfl⟩
  have b0 : Below w.heap.size w w0 := by rw [hw0]; exact below_alloc _ _
  by_cases hx : x = 0
  · subst hx
    have hm1 : may k r c q = true := by
      rcases h with ⟨hm, _⟩ | ⟨_, _, _, h0⟩
      · exact hm
      · exact absurd h0 (by decide)
    rw [hm1] at HMY
    obtain ⟨K, R, m, Q, rfl, rfl, rfl, rfl, k1, k2, r1, m1, m2, hW, hN, hW32, _, _⟩ := h.nums4
    have hww : wrap64 ((K : Int) * (m : Int)) = (W : Int) := by rw [← Int.natCast_mul, ← hW, w64 _ ⟨by omega, by omega⟩]
    rw [hww] at HWY
    clear hm1 hww h
    unfold erUn at hE
    rw [if_pos rfl] at hE
    by_cases h1 : on = W
    · have q1 : ((on : Int) != (W : Int)) = false := by rw [h1]; simp
      by_cases h2 : mn = W
      · rw [if_pos ⟨h1, h2⟩] at hE
        subst hE
        obtain ⟨ob, of, rfl, _⟩ := hO.rd (by omega)
        obtain ⟨mb, mf, rfl, _⟩ := hM.rd (by omega)
        have HOT : Hid (∀ u, Below w.heap.size w u → _) := fun u hu => other_any (R : Int) (Q : Int) u ob of on oc O (hO.below hu) mb mf mn mc M (hM.below hu) (h1.trans hW) (h2.trans hW) k2 m1 m2
        have q2 : ((mn : Int) != (on : Int)) = false := by rw [h1, h2]; simp
        rw [Int.toNat_natCast, Int.toNat_natCast]
        have HL : Hid (lenE 0 (cU (dfB m O M) K) = cU (dfB m O M) K) := if_pos rfl
        clear hO hM hW h1 h2
        go_enter Try.func9, Try.ntmps9
        go_wp2_with fail
        rw [← hw0]
        refine (HMY _).mono ?_
        rintro e wa ⟨rfl, ha⟩
        obtain ⟨s0, s1, s2, s3⟩ := par_held hw0 ha
        go_wp2_with fail
        refine (HWY _).mono ?_
        rintro e wb ⟨rfl, hb⟩
        clear s0 s1 s2 s3
        obtain ⟨s0, s1, s2, s3⟩ := par_held hw0 (below_then ha hb)
        have HB : Hid (Below w.heap.size w wb) := below_then b0 (below_then ha hb)
        clear ha hb hw0 b0
        go_wp2_with fail
        refine (HOT.out _ HB.out).mono ?_
        rintro e wc ⟨ao, cap, T, U, rfl, hch, hc⟩
        have HC : Hid (Chr wb.heap.size wc ao (cU (dfB m O M) K) cap (fun i => ((sU (dfB m O M) K i : Nat) : Int)) T (fun _ => m) U (fun i b => M (sU (dfB m O M) K i * m + b)) ∧ Below wb.heap.size wb wc) := ⟨hch, hc⟩
        clear hch hc
        go_wp2_with fail
        go_ret2
        refine ⟨ao, cap, T, U, ?_, ?_, below_then HB.out HC.out.2⟩
        · rw [HL.out]; rfl
        · rw [HL.out]; exact HC.out.1.mono HB.out.size
      · rw [if_neg fun g => h2 g.2] at hE
        subst hE
        have q2 : ((mn : Int) != (on : Int)) = true := by simp; omega
        clear hW h1 h2
        go_enter Try.func9, Try.ntmps9
        go_wp2_with fail
        rw [← hw0]
        refine (HMY _).mono ?_
        rintro e wa ⟨rfl, ha⟩
        obtain ⟨s0, s1, s2, s3⟩ := par_held hw0 ha
        go_wp2_with fail
        refine (HWY _).mono ?_
        rintro e wb ⟨rfl, hb⟩
        go_wp2_with fail
        go_ret2
        exact ansr_none (by decide) (below_then b0 (below_then ha hb))
    · rw [if_neg fun g => h1 g.1] at hE
      subst hE
      have q1 : ((on : Int) != (W : Int)) = true := by simp; omega
      clear hW h1
      go_enter Try.func9, Try.ntmps9
      go_wp2_with fail
      rw [← hw0]
      refine (HMY _).mono ?_
      rintro e wa ⟨rfl, ha⟩
      obtain ⟨s0, s1, s2, s3⟩ := par_held hw0 ha
      go_wp2_with fail
      refine (HWY _).mono ?_
      rintro e wb ⟨rfl, hb⟩
      go_wp2_with fail
      go_ret2
      exact ansr_none (by decide) (below_then b0 (below_then ha hb))
  · have hm1 : may k r c q = false ∧ x = 2 := by
      rcases h with ⟨_, _, _, h0⟩ | ⟨hm, _, _, h0⟩
      · exact absurd h0 hx
      · exact ⟨hm, h0⟩
    obtain ⟨hm1, rfl⟩ := hm1
    rw [hm1] at HMY
    obtain rfl : (2 : Int) = E := hE
    clear h HWY
    go_enter Try.func9, Try.ntmps9
    go_wp2_with fail
    rw [← hw0]
    refine (HMY _).mono ?_
    rintro e wa ⟨rfl, ha⟩
    go_wp2_with fail
    go_ret2
    exact ansr_none (by decide) (below_then b0 ha)
end Go.Proofs.Ytdnflninbnjdhaa
