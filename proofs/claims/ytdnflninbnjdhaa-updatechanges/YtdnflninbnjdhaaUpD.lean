/- What Changes of the program answers, whatever is handed in; its Unlike. -/
import Derived.Test.YtdnflninbnjdhaaUpC
namespace Go.Proofs.Ytdnflninbnjdhaa
open Go.RowKit

/-- What parameters that may be come to. -/
theorem Par.nums4 {k r c q : Int} {N W : Nat} (h : Par k r c q N W 0) : ∃ K R m Q : Nat, k = (K : Int) ∧ r = (R : Int) ∧ c = (m : Int) ∧ q = (Q : Int) ∧ 1 ≤ K ∧ K ≤ 12 ∧ R ≤ 4 ∧ 8 ≤ m ∧ m ≤ 64 ∧ W = K * m ∧ N = K + R ∧ 32 ≤ W ∧ 8 ≤ Q ∧ Q ≤ 256 := by
  rcases h with ⟨hm, hW, hN, _⟩ | ⟨_, _, _, h0⟩
  · obtain ⟨h1, h2, h3, h4, h5, h6, h7, h8, h9⟩ := may_true hm
    obtain ⟨K, rfl⟩ := Int.eq_ofNat_of_zero_le (show 0 ≤ k by omega)
    obtain ⟨R, rfl⟩ := Int.eq_ofNat_of_zero_le h3
    obtain ⟨m, rfl⟩ := Int.eq_ofNat_of_zero_le (show 0 ≤ c by omega)
    obtain ⟨Q, rfl⟩ := Int.eq_ofNat_of_zero_le (show 0 ≤ q by omega)
    rw [← Int.natCast_mul] at hW h7
    exact ⟨K, R, m, Q, rfl, rfl, rfl, rfl, by omega, by omega, by omega, by omega, by omega, by omega, by omega, by omega, by omega, by omega⟩
  · exact absurd h0 (by decide)
theorem erCh_zero {x : Int} {W on : Nat} {a : Int} {nn : Nat} (h : erCh x W on a nn = 0) : x = 0 ∧ on = W ∧ (0 ≤ a ∧ a ≤ (W : Int)) ∧ (nn : Int) ≤ (W : Int) - a := by
  unfold erCh at h
  by_cases e : x = 0
  · rw [if_pos e] at h
    by_cases e1 : on = W
    · rw [if_pos e1] at h
      by_cases e2 : 0 ≤ a ∧ a ≤ (W : Int)
      · rw [if_pos e2] at h
        by_cases e3 : (nn : Int) ≤ (W : Int) - a
        · exact ⟨e, e1, e2, e3⟩
        · rw [if_neg e3] at h; exact absurd h (by decide)
      · rw [if_neg e2] at h; exact absurd h (by decide)
    · rw [if_neg e1] at h; exact absurd h (by decide)
  · rw [if_neg e] at h; exact absurd h e
theorem Changes_any {k r c q : Int} {N W : Nat} {x : Int} (h : Par k r c q N W x) (w : World) (oo : Option Addr) (on oc : Nat) (O : Nat → UInt8) (hO : Bec w oo on oc O) (a : Int) (mo : Option Addr) (mn mc : Nat) (M : Nat → UInt8) (hM : Bec w mo mn mc M) (E : Int) (hE : erCh x W on a mn = E) :
    Calls Try.prog 6 #[.agg #[.int .i64 k, .int .i64 r, .int .i64 c, .int .i64 q], .slice oo on oc, .int .i64 a, .slice mo mn mc] w (AnsCh w E (nCh a.toNat mn c.toNat) (fun i => ((a.toNat / c.toNat + i : Nat) : Int)) c.toNat (chB O M a.toNat mn c.toNat)) := by
  by_cases h0 : E = 0
  · subst h0
    obtain ⟨rfl, hon, ha, hmn⟩ := erCh_zero hE
    obtain ⟨K, R, m, Q, rfl, rfl, rfl, rfl, k1, k2, r1, m1, m2, hW, hN, hW32, _, _⟩ := h.nums4
    obtain ⟨o, rfl⟩ := Int.eq_ofNat_of_zero_le ha.1
    obtain ⟨ob, of, rfl, _⟩ := hO.rd (by omega)
    rw [Int.toNat_natCast, Int.toNat_natCast]
    exact changes_good h w ob of on oc O hO o mo mn mc M hM hon (by omega) (by omega) hW k1 k2 m1 m2 hW32
  · refine (changes_bad h w oo on oc a mo mn mc E hE h0).mono ?_
    rintro e w' ⟨rfl, hb⟩
    exact ans_none h0 hb
/-- Which cells differ: how many of the first i, the j-th of them. -/
def dfB (m : Nat) (O M : Nat → UInt8) (i : Nat) : Bool := !eqB m (fun j => O (i * m + j)) (fun j => M (i * m + j))
def cU (P : Nat → Bool) : Nat → Nat
  | 0 => 0
  | i + 1 => cU P i + if P i = true then 1 else 0
def sU (P : Nat → Bool) : Nat → Nat → Nat
  | 0, _ => 0
  | i + 1, j => if P i = true ∧ j = cU P i then i else sU P i j
theorem cU_le (P : Nat → Bool) : ∀ i, cU P i ≤ i
  | 0 => Nat.le_refl 0
  | i + 1 => by rw [cU]; have := cU_le P i; split <;> omega
theorem cU_yes {P : Nat → Bool} {i : Nat} (h : P i = true) : cU P (i + 1) = cU P i + 1 := by rw [cU, if_pos h]
theorem cU_no {P : Nat → Bool} {i : Nat} (h : P i = false) : cU P (i + 1) = cU P i := by rw [cU, if_neg (by rw [h]; exact Bool.false_ne_true)]; rfl
theorem sU_lo {P : Nat → Bool} {i j : Nat} (h : j < cU P i) : sU P (i + 1) j = sU P i j := by rw [sU, if_neg (by omega)]
theorem sU_at {P : Nat → Bool} {i : Nat} (h : P i = true) : sU P (i + 1) (cU P i) = i := by rw [sU, if_pos ⟨h, rfl⟩]
theorem sU_is (P : Nat → Bool) : ∀ n j, j < cU P n → sU P n j < n ∧ P (sU P n j) = true
  | 0, j, h => absurd h (Nat.not_lt_zero j)
  | n + 1, j, h => by
    by_cases e : j < cU P n
    · rw [sU_lo e]; have := sU_is P n j e; exact ⟨by omega, this.2⟩
    · cases q : P n
      · rw [cU_no q] at h; omega
      · rw [cU_yes q] at h
        obtain rfl : j = cU P n := by omega
        rw [sU_at q]; exact ⟨by omega, q⟩
/-- The error of Unlike. -/
def erUn (x : Int) (W on mn : Nat) : Int := if x = 0 then (if on = W ∧ mn = W then 0 else 20) else x
set_option maxHeartbeats 4000000 in
set_option maxRecDepth 100000 in
theorem unlike_bad {k r c q : Int} {N W : Nat} {x : Int} (h : Par k r c q N W x) (w : World) (oo : Option Addr) (on oc : Nat) (mo : Option Addr) (mn mc : Nat) (E : Int) (hE : erUn x W on mn = E) (h0 : ¬ E = 0) :
    Calls Try.prog 8 #[.agg #[.int .i64 k, .int .i64 r, .int .i64 c, .int .i64 q], .slice oo on oc, .slice mo mn mc] w fun e w' => e = .returned (.tuple #[.slice none 0 0, .int .i64 E]) ∧ Below w.heap.size w w' := by
  have HC := fun w => Width_any h w
  have hW := h.wide
  obtain ⟨w0, hw0⟩ : ∃ w0, w0 = w.alloc (.cells #[.int .i64 k, .int .i64 r, .int .i64 c, .int .i64 q] 23) := ⟨_, rfl⟩
  have b0 : Below w.heap.size w w0 := by rw [hw0]; exact below_alloc _ _
  unfold erUn at hE
  clear h
  by_cases h1 : x = 0
  · subst h1
    rw [if_pos rfl] at hE
    by_cases h2 : on = W
    · subst h2
      have q1 : ((on : Int) != (on : Int)) = false := by simp
      by_cases h3 : mn = on
      · rw [if_pos ⟨rfl, h3⟩] at hE; exact absurd hE.symm h0
      · rw [if_neg fun a => h3 a.2] at hE
        subst hE
        have q2 : ((mn : Int) != (on : Int)) = true := by simp; omega
        go_enter Try.func8, Try.ntmps8
        go_wp2_with fail
        rw [← hw0]
        refine (HC _).mono ?_
        rintro e wa ⟨rfl, ha⟩
        go_wp2_with fail
        go_ret2
        exact ⟨rfl, below_then b0 ha⟩
    · rw [if_neg fun a => h2 a.1] at hE
      subst hE
      have q1 : ((on : Int) != (W : Int)) = true := by simp; omega
      go_enter Try.func8, Try.ntmps8
      go_wp2_with fail
      rw [← hw0]
      refine (HC _).mono ?_
      rintro e wa ⟨rfl, ha⟩
      go_wp2_with fail
      go_ret2
      exact ⟨rfl, below_then b0 ha⟩
  · rw [if_neg h1] at hE
    subst hE
    have q1 : (x != 0) = true := by simp [h1]
    go_enter Try.func8, Try.ntmps8
    go_wp2_with fail
    rw [← hw0]
    refine (HC _).mono ?_
    rintro e wa ⟨rfl, ha⟩
    go_wp2_with fail
    go_ret2
    exact ⟨rfl, below_then b0 ha⟩
set_option maxHeartbeats 8000000 in
set_option maxRecDepth 100000 in
theorem unlike_good {K R m q : Nat} {N W : Nat} (h : Par (K : Int) (R : Int) (m : Int) (q : Int) N W 0) (w : World) (ob of on oc : Nat) (O : Nat → UInt8) (hO : Bec w (some ⟨ob, of, none⟩) on oc O) (mb mf mn mc : Nat) (M : Nat → UInt8) (hM : Bec w (some ⟨mb, mf, none⟩) mn mc M) (hon : on = W) (hmn : mn = W) (hWk : W = K * m) (hK : K ≤ 12) (hc1 : 8 ≤ m) (hc2 : m ≤ 64) :
    Calls Try.prog 8 #[.agg #[.int .i64 (K : Int), .int .i64 (R : Int), .int .i64 (m : Int), .int .i64 (q : Int)], .slice (some ⟨ob, of, none⟩) on oc, .slice (some ⟨mb, mf, none⟩) mn mc] w (AnsCh w 0 (cU (dfB m O M) K) (fun i => ((sU (dfB m O M) K i : Nat) : Int)) m (fun i b => M (sU (dfB m O M) K i * m + b))) := by
  obtain ⟨j0, hj, hj0, hj1, hj2⟩ := info_parts info33
  have hWw := h.wide
  have HWI : Hid (∀ u, Calls Try.prog 12 #[.agg #[.int .i64 (K : Int), .int .i64 (R : Int), .int .i64 (m : Int), .int .i64 (q : Int)]] u fun e w' => e = .returned (.tuple #[.int .i64 (W : Int), .int .i64 0]) ∧ Below u.heap.size u w') := fun u => by
    refine (Width_any h u).mono ?_
    rintro e w' ⟨rfl, hb⟩
    exact ⟨rfl, hb⟩
  obtain ⟨w0, hw0⟩ : ∃ w0, w0 = w.alloc (.cells #[.int .i64 (K : Int), .int .i64 (R : Int), .int .i64 (m : Int), .int .i64 (q : Int)] 23) := ⟨_, rfl⟩
  have B0 : Hid (Below w.heap.size w w0) := by show Below _ _ _; rw [hw0]; exact below_alloc _ _
  have HPAR : Hid (∀ v, Below w0.heap.size w0 v → v.cell? ⟨w.heap.size, 0, none⟩ = some (.int .i64 (K : Int)) ∧ v.cell? ⟨w.heap.size, 1, none⟩ = some (.int .i64 (R : Int)) ∧ v.cell? ⟨w.heap.size, 2, none⟩ = some (.int .i64 (m : Int)) ∧ v.cell? ⟨w.heap.size, 3, none⟩ = some (.int .i64 (q : Int))) := fun v hv => par_held hw0 hv
  have HOB : Hid (∀ v, Below w.heap.size w v → Bec v (some ⟨ob, of, none⟩) on oc O) := fun v hv => hO.below hv
  have HMB : Hid (∀ v, Below w.heap.size w v → Bec v (some ⟨mb, mf, none⟩) mn mc M) := fun v hv => hM.below hv
  have HON : Hid (on = K * m) := by show _ = _; rw [hon]; exact hWk
  have HMN : Hid (mn = K * m) := by show _ = _; rw [hmn]; exact hWk
  have HOC : Hid (on ≤ oc) := hO.room
  have HMR : Hid (mn ≤ mc) := hM.room
  have q1 : ((on : Int) != (W : Int)) = false := by rw [hon]; simp
  have q2 : ((mn : Int) != (W : Int)) = false := by rw [hmn]; simp
  obtain ⟨P, hP⟩ : ∃ P, P = dfB m O M := ⟨_, rfl⟩
  have HP : Hid (∀ i, P i = !eqB m (fun j => O (i * m + j)) (fun j => M (i * m + j))) := by rw [hP]; exact fun i => rfl
  rw [← hP]
  clear hO hM h hWk hon hmn hP
  go_enter Try.func8, Try.ntmps8
  go_wp2_with fail
  rw [← hw0]
  clear hw0
  refine (HWI.out _).mono ?_
  rintro e wa ⟨rfl, ha⟩
  obtain ⟨s0, s1, s2, s3⟩ := HPAR.out wa ha
  have HA : Hid (Below w0.heap.size w0 wa) := ha
  clear ha HWI s1 s2 s3
  go_wp2_with fail
  go_loopw [10, 35] (fun l y wr => ∃ i : Nat, i ≤ K ∧ y = .int .i64 (i : Int) ∧ ∃ ao cap T U, l = .slice ao (cU P i) cap ∧ Hid (Chs wa.heap.size wr ao (cU P i) cap (fun j => ((sU P i j : Nat) : Int)) T (fun _ => m) U (fun j b => M (sU P i j * m + b))) ∧ Hid (Below wa.heap.size wa wr)) (fun _ y _ => K - (intOf y).toNat)
  case atStart => exact ⟨0, Nat.zero_le _, rfl, none, 0, fun _ => none, fun _ => 0, rfl, chs_nil _ _ _ _ _ _ _, Below.refl _ _⟩
  case round =>
    obtain ⟨i, hi, rfl, ao, cap, T, U, rfl, hchs, hbel⟩ := hrel
    by_cases hlt : i < K
    · have hm0 : 0 < m := by omega
      obtain ⟨a0, a1, a2, a3⟩ := HPAR.out wr (below_then HA.out hbel.out)
      have hsm : i * m + m ≤ K * m := by rw [← Nat.succ_mul]; exact Nat.mul_le_mul_right m hlt
      have HBR : Hid (Below wa.heap.size wa wr) := hbel.out
      have BW : Hid (Below w.heap.size w wr) := below_then B0.out (below_then HA.out hbel.out)
      have hcU := cU_le P i
      clear hbel
      go_wp2_with fail
      refine (ucut_any (K := K) (m := m) (R : Int) (q : Int) wr mb mf mn mc i hlt hK hc2 HMN.out HMR.out hm0).mono ?_
      rintro e wb ⟨rfl, hb⟩
      clear a0 a1 a2 a3
      obtain ⟨a0, a1, a2, a3⟩ := HPAR.out wb (below_then HA.out (below_then HBR.out hb))
      have HB : Hid (Below wr.heap.size wr wb) := hb
      clear hb
      go_wp2_with fail
      refine (ucut_any (K := K) (m := m) (R : Int) (q : Int) wb ob of on oc i hlt hK hc2 HON.out HOC.out hm0).mono ?_
      rintro e wc ⟨rfl, hc⟩
      have HC : Hid (Below wr.heap.size wr wc) := below_then HB.out hc
      have h1 : Bec wc (some ⟨ob, of + i * m, none⟩) m (oc - i * m) (fun j => O (i * m + j)) := bec_cut2 (HOB.out wc (below_then BW.out HC.out)) (by rw [HON.out]; exact hsm) hm0
      have h2 : Bec wc (some ⟨mb, mf + i * m, none⟩) m (mc - i * m) (fun j => M (i * m + j)) := bec_cut2 (HMB.out wc (below_then BW.out HC.out)) (by rw [HMN.out]; exact hsm) hm0
      have HEQ := bequal_any wc _ _ m _ _ _ _ h1 h2
      have hPi := HP.out i
      obtain ⟨y, hy⟩ : ∃ y, y = eqB m (fun j => O (i * m + j)) (fun j => M (i * m + j)) := ⟨_, rfl⟩
      rw [← hy] at HEQ hPi
      have HH2 : Hid (Bec wc (some ⟨mb, mf + i * m, none⟩) m (mc - i * m) (fun j => M (i * m + j))) := h2
      have HCH : Hid (Chs wa.heap.size wc ao (cU P i) cap (fun j => ((sU P i j : Nat) : Int)) T (fun _ => m) U (fun j b => M (sU P i j * m + b))) := hchs.out.below HC.out
      have HWC : Hid (Below wa.heap.size wa wc) := below_then HBR.out HC.out
      clear hc h1 h2 hy hchs
      cases y
      · have HPI : Hid (P i = true) := hPi
        clear hPi
        go_wp2_with fail
        refine HEQ.mono ?_
        rintro e w' ⟨rfl, hw'⟩
        obtain rfl := hw'.symm
        clear HEQ a0 a1 a2 a3
        go_wp2_with fail
        refine (bclone_any wc mb (mf + i * m) m (mc - i * m) _ HH2.out (by omega) (by omega)).mono ?_
        rintro e wf ⟨g, u, rfl, hg, hf⟩
        obtain ⟨xs, hxs⟩ : ∃ xs, xs = chOf (fun j => ((sU P i j : Nat) : Int)) T (fun _ => m) U (cU P i) := ⟨_, rfl⟩
        have HCH2 : Hid (Chs wa.heap.size wf ao (cU P i) cap (fun j => ((sU P i j : Nat) : Int)) T (fun _ => m) U (fun j b => M (sU P i j * m + b))) := HCH.out.below hf
        have HXO : Hid (wf.ownsRow wa.heap.size 33 2 (.slice ao (cU P i) cap) (cU P i) xs) := by show World.ownsRow _ _ _ _ _ _ _; rw [hxs]; exact HCH2.out.out
        have HXS : Hid (xs = chOf (fun j => ((sU P i j : Nat) : Int)) T (fun _ => m) U (cU P i)) := hxs
        have HWF : Hid (Below wa.heap.size wa wf) := below_then HWC.out hf
        have ARM : Hid (∀ {w5 : World} {g5 cap5 : Nat}, w5.ownsRow wa.heap.size 33 2 (.slice (some ⟨g5, 0, none⟩) (cU P i + 1) cap5) (cU P i + 1) (xs ++ [.int .i64 (i : Int), .slice (some ⟨g, 0, none⟩) m u]) → (wf.alloc (.cells #[.int .i64 (i : Int), .slice (some ⟨g, 0, none⟩) m u] 33)).grownBy w5 (Value.slice ao (cU P i) cap).ownBlock → Chs wa.heap.size w5 (some ⟨g5, 0, none⟩) (cU P (i + 1)) cap5 (fun j => ((sU P (i + 1) j : Nat) : Int)) (put (cU P i) (some ⟨g, 0, none⟩) T) (fun _ => m) (put (cU P i) u U) (fun j b => M (sU P (i + 1) j * m + b)) ∧ Below wa.heap.size wa w5) := by
          intro w5 g5 cap5 hown5 hgrow5
          have hcg : Chs wa.heap.size wf ao (cU P i) cap (fun j => ((sU P (i + 1) j : Nat) : Int)) T (fun _ => m) U (fun j b => M (sU P (i + 1) j * m + b)) := HCH2.out.congr (fun j hj => by rw [sU_lo hj]) (fun j hj b _ => by rw [sU_lo hj])
          rw [HXS.out, chOf_congr (D' := fun j => ((sU P (i + 1) j : Nat) : Int)) (T' := T) (L' := fun _ => m) (U' := U) fun j hj => ⟨by rw [sU_lo hj], rfl, rfl, rfl⟩] at hown5
          rw [cU_yes HPI.out]
          have hgo : OwU wc.heap.size wf (some ⟨g, 0, none⟩) m u (fun b => M (sU P (i + 1) (cU P i) * m + b)) := by rw [sU_at HPI.out]; exact hg
          obtain ⟨g', e', k1, k2⟩ := hg.at_ hm0
          cases e'
          refine ⟨(hcg.below (below_alloc _ _)).push (hgo.below (below_alloc _ _)) HWC.out.size (chs_lt HCH.out) hgrow5 ?_ k1, (below_then HWF.out (below_alloc _ _)).grown hgrow5 (by have := HWF.out.size; simp; omega) (fun r hr => (HCH2.out.out.lt r hr).1)⟩
          rw [sU_at HPI.out]
          exact hown5
        have HCY : Hid (cU P (i + 1) = cU P i + 1) := cU_yes HPI.out
        clear hg hf hxs
        go_wp2_with (at_builtin; refine wpList_append_lies _ (by rfl) (.tmp 49) (.tmp 54) 26 (by rfl) wa.heap.size 33 j0 (.agg #[.int .i64 0, .slice none 0 0]) 2 32 Try.underlying26 hj hj0 hj1 hj2 (by rfl) (by decide) (.slice ao (cU P i) cap) (cU P i) xs (by rfl) (owns_below HXO.out (below_alloc _ _)) ⟨wf.heap.size, 0, none⟩ 1 1 [.int .i64 (i : Int), .slice (some ⟨g, 0, none⟩) m u] (by simp [Act.eval]) (by rfl) (World.news_of_block (heap_alloc_new wf _)) (by simp [Value.oneCell']) (by decide) (by unfold maxLen; omega) (by omega) (by have := HWF.out.size; simp; omega) (wf.heap.size + 1) (by simp) ?_; intro g5 cap5 w5 hown5 hgrow5 _ _
                     have HO5 : Hid _ := And.intro trivial (ARM.out hown5 hgrow5)
                     clear hown5 hgrow5)
        go_roundw
        case rel => exact ⟨i + 1, by omega, by go_num, _, cap5, _, _, by rw [HCY.out], HO5.out.2.1, HO5.out.2.2⟩
        case measure => simp [intOf]; omega
      · have HPI : Hid (P i = false) := hPi
        clear hPi
        go_wp2_with fail
        refine HEQ.mono ?_
        rintro e w' ⟨rfl, hw'⟩
        obtain rfl := hw'.symm
        clear HEQ a0 a1 a2 a3
        go_wp2_with fail
        go_roundw
        case rel =>
          refine ⟨i + 1, by omega, by go_num, ao, cap, T, U, by rw [cU_no HPI.out], ?_, HWC.out⟩
          rw [cU_no HPI.out]
          exact HCH.out.congr (fun j hj => by rw [sU_lo hj]) (fun j hj b _ => by rw [sU_lo hj])
        case measure => simp [intOf]; omega
    · obtain rfl : i = K := by omega
      have HL : Hid (lenE 0 (cU P i) = cU P i) := if_pos rfl
      go_wp2_with fail
      go_ret2
      refine ⟨ao, cap, T, U, ?_, ?_, below_then B0.out (below_then HA.out hbel.out)⟩
      · rw [HL.out]; rfl
      · rw [HL.out]; exact hchs.out.mono (Nat.le_trans B0.out.size HA.out.size)
theorem erUn_zero {x : Int} {W on mn : Nat} (h : erUn x W on mn = 0) : x = 0 ∧ on = W ∧ mn = W := by
  unfold erUn at h
  by_cases e : x = 0
  · rw [if_pos e] at h
    by_cases e1 : on = W ∧ mn = W
    · exact ⟨e, e1.1, e1.2⟩
    · rw [if_neg e1] at h; exact absurd h (by decide)
  · rw [if_neg e] at h; exact absurd h e
theorem Unlike_any {k r c q : Int} {N W : Nat} {x : Int} (h : Par k r c q N W x) (w : World) (oo : Option Addr) (on oc : Nat) (O : Nat → UInt8) (hO : Bec w oo on oc O) (mo : Option Addr) (mn mc : Nat) (M : Nat → UInt8) (hM : Bec w mo mn mc M) (E : Int) (hE : erUn x W on mn = E) :
    Calls Try.prog 8 #[.agg #[.int .i64 k, .int .i64 r, .int .i64 c, .int .i64 q], .slice oo on oc, .slice mo mn mc] w (AnsCh w E (cU (dfB c.toNat O M) k.toNat) (fun i => ((sU (dfB c.toNat O M) k.toNat i : Nat) : Int)) c.toNat (fun i b => M (sU (dfB c.toNat O M) k.toNat i * c.toNat + b))) := by
  by_cases h0 : E = 0
  · subst h0
    obtain ⟨rfl, hon, hmn⟩ := erUn_zero hE
    obtain ⟨K, R, m, Q, rfl, rfl, rfl, rfl, k1, k2, r1, m1, m2, hW, hN, hW32, _, _⟩ := h.nums4
    obtain ⟨ob, of, rfl, _⟩ := hO.rd (by omega)
    obtain ⟨mb, mf, rfl, _⟩ := hM.rd (by omega)
    rw [Int.toNat_natCast, Int.toNat_natCast]
    exact unlike_good h w ob of on oc O hO mb mf mn mc M hM hon hmn hW k2 m1 m2
  · refine (unlike_bad h w oo on oc mo mn mc E hE h0).mono ?_
    rintro e w' ⟨rfl, hb⟩
    exact ans_none h0 hb
end Go.Proofs.Ytdnflninbnjdhaa
