/- What the program's way back to the data cells answers. -/
import Derived.Test.YthkikocacbbhkaaCodG
namespace Go.Proofs.Ythkikocacbbhkaa
open Go.RowKit

set_option maxHeartbeats 4000000 in
set_option maxRecDepth 100000 in
theorem back_any (w : World) (b B k r n c cc : Nat) (co : Option Addr) (L R : Nat -> Nat) (hk1 : 1 <= k) (hk : k <= 12) (hr : r <= 4) (hn : n <= 5000) (hB : B <= w.heap.size)
    (hkept : Kept w b B k r n 0 0) (hsel : Sel L (k + r) c R) (hc : k <= c) (hco : RdI w co k (fun t => (R t : Int))) :
    Calls Try.prog 38 #[.map (some b), .int .i64 (k : Int), .int .i64 (r : Int), .slice co k cc] w fun e w' => Kept w' b B k r (n + 12 * k) 0 0 /\ Keeps b (b + 1) w w' /\ ((R (k - 1) < k /\ e = .returned (.slice none 0 0)) \/ ∃ lb cb Gb Ub, e = .returned (.slice (some ⟨lb, 0, none⟩) k cb) /\ ∃ B0, Mat w' B0 w'.heap.size lb cb k k Gb Ub (invOf k (rowsR k R))) := by
  obtain ⟨j0, hj, hj0, hj1, hj2⟩ := info_parts info23c
  have HK : Hid (Kept w b B k r n 0 0) := hkept
  have HSEL : Hid (Sel L (k + r) c R) := hsel
  obtain ⟨bc, oc, rfl, hcc⟩ := hco (by omega)
  have HCC : Hid (∀ i, i < k -> w.cell? ⟨bc, oc + i, none⟩ = some (.int .i64 (R i : Int))) := hcc
  have dl : w.cell? ⟨bc, oc + (k - 1), none⟩ = some (.int .i64 (R (k - 1) : Int)) := hcc (k - 1) (by omega)
  have i1 : (0 : Int) <= (k : Int) - 1 := by omega
  have i2 : (k : Int) - 1 < (k : Int) := by omega
  have iw : wrap64 ((k : Int) - 1) = (k : Int) - 1 := by unfold wrap64; omega
  obtain ⟨z, hz⟩ : ∃ z, z = R (k - 1) := ⟨_, rfl⟩
  have HZ : Hid (z = R (k - 1)) := hz
  rw [<- hz] at dl
  clear hkept hsel hco hcc hz
  by_cases hzk : z < k
  · have iz : (z : Int) < (k : Int) := by omega
    go_enter Try.func38, Try.ntmps38
    go_wp2
    go_ret
    exact ⟨HK.out.mono (by omega), Keeps.refl _ _ _, .inl ⟨by rw [<- HZ.out]; exact hzk, rfl⟩⟩
  have iz : ¬ (z : Int) < (k : Int) := by omega
  go_enter Try.func38, Try.ntmps38
  go_wp2
  go_loopw [9, 23] (fun v x wr => ∃ t : Nat, t <= k /\ x = .int .i64 t /\ (∃ a1 c1, v = .slice a1 t c1) /\ Hid (∃ G U, PickR wr w.heap.size k t v G U R) /\ Hid (Kept wr b B k r (n + 12 * t) 0 0) /\ Hid (Keeps b (b + 1) w wr)) (fun _ x _ => k - (intOf x).toNat)
  case atStart => exact ⟨0, Nat.zero_le _, rfl, ⟨none, 0, rfl⟩, ⟨_, _, PickR.start _ _ _ _⟩, HK.out, Keeps.refl _ _ _⟩
  case round =>
    obtain ⟨t, htk, rfl, ⟨a1, c1, rfl⟩, hpick, hkept, hkeep⟩ := hrel
    by_cases hlt : t < k
    · obtain ⟨G, U, hp⟩ := hpick.out
      have HP : Hid (PickR wr w.heap.size k t (.slice a1 t c1) G U R) := hp
      have hws := hkeep.out.size
      obtain ⟨q, hq⟩ : ∃ q, q = R t := ⟨_, rfl⟩
      have hqn : q < k + r := by rw [hq]; exact HSEL.out.lt t (by omega)
      have S0 : Hid (Stay w wr) := HK.out.stay hkeep.out
      have d1 : wr.cell? ⟨bc, oc + t, none⟩ = some (.int .i64 (q : Int)) := by rw [hq]; exact S0.out.cell (HCC.out t hlt)
      have HQ : Hid (q = R t) := hq
      have HR := row_any wr b B k r (n + 12 * t) q hk1 hk hr hqn (by omega) (by omega) hkept.out
      unfold key at HR
      have HRR : Hid (Calls Try.prog 29 #[.map (some b), .agg #[.int .i64 (k : Int), .int .i64 (r : Int), .int .i64 (q : Int)]] wr (RowOf wr b B k r (n + 12 * t) q)) := HR
      obtain ⟨XS, hXS⟩ : ∃ X, X = rowsOf t (fun s => some ⟨G s, 0, none⟩) (fun _ => k) U := ⟨_, rfl⟩
      have HXS : Hid (rowsOf t (fun s => some ⟨G s, 0, none⟩) (fun _ => k) U = XS) := hXS.symm
      have i3 : (0 : Int) <= (t : Int) := by omega
      have i4 : (t : Int) < (k : Int) := by omega
      clear hpick hp hXS HR hq dl i1 i2 iw iz
      go_wp2_with (first
        | (go_at_call 29; refine HRR.out.mono ?_; rintro e w1 ⟨g, u, rfl, hg, ho, hk1', hke1⟩
           have S1 : Hid (Stay wr w1) := hkept.out.stay hke1
           have HP1 : Hid (PickR w1 w.heap.size k t (.slice a1 t c1) G U R) := HP.out.stay S1.out
           have HO1 : Hid (Own w1 g k u (gen k (R t))) := (by rw [<- HQ.out]; exact ho)
           have HK1 : Hid (Kept w1 b B k r (n + 12 * t + 12) 0 0) := hk1'
           have HE1 : Hid (Keeps b (b + 1) w w1) := hkeep.out.trans hke1
           have HOV : Hid (w1.ownsRow w.heap.size 23 1 (.slice a1 t c1) t XS) := (by rw [<- HXS.out]; exact HP1.out.rows)
           have hs1 : w.heap.size <= w1.heap.size := Nat.le_trans hws hke1.size
           clear hg ho hk1' hke1 HRR)
        | (at_builtin; refine wpList_append_lies _ (by rfl) (.tmp 27) (.tmp 34) 24 (by rfl) w.heap.size 23 j0 (.slice none 0 0) 1 24 Try.underlying24 hj hj0 hj1 hj2 (by rfl) (by decide) (.slice a1 t c1) t XS (by rfl) (HOV.out.alloc _) ⟨w1.heap.size, 0, none⟩ 1 1 [.slice (some ⟨g, 0, none⟩) k u] (by rfl) (by rfl) (World.news_of_block (heap_alloc_new w1 _)) (by simp [Value.oneCell']) (by decide) (by unfold maxLen; omega) (by omega) (by simp; omega) (w1.heap.size + 1) (by simp) ?_; intro g2 cap2 w2 hown2 hgrow2 _ _))
      have HP3 : Hid (∃ G U, PickR w2 w.heap.size k (t + 1) (.slice (some ⟨g2, 0, none⟩) (t + 1) cap2) G U R) :=
        ⟨_, _, HP1.out.step HO1.out hgrow2 (by rw [HXS.out]; exact hown2)⟩
      have HK3 : Hid (Kept w2 b B k r (n + 12 * (t + 1)) 0 0) := ((HK1.out.below ((Below.refl _ _).alloc (Nat.le_refl _) _)).grown (HOV.out.alloc _) hgrow2).mono (by omega)
      have HE3 : Hid (Keeps b (b + 1) w w2) := (HE1.out.alloc _).grown2 hgrow2 (fun q hq => (HOV.out.lt q hq).1)
      clear hown2 hgrow2
      go_roundw
      case rel => exact ⟨t + 1, by omega, by go_num, ⟨_, _, rfl⟩, HP3, HK3, HE3⟩
      case measure => simp [intOf]; omega
    · obtain rfl : t = k := by omega
      obtain ⟨G, U, hp⟩ := hpick.out
      have HI := inverse_any wr a1 t c1 _ _ _ _ hp.lst
      rw [okInv_of hk1 (by omega) (rows_inv hk (show t + r <= 16 by omega) (fun s hs => HSEL.out.lt s (by omega)) (fun s s' h1 h2 => HSEL.out.rise s s' h1 (by omega)))] at HI
      have HII : Hid (Calls Try.prog 51 #[.slice a1 t c1] wr (Made wr true (errM (okSq t fun _ => t) 5) t t (invOf t (rowsR t R)))) := HI
      clear hpick hp HI dl i1 i2 iw iz
      go_wp2_with fail
      refine HII.out.mono ?_
      intro e wi hh
      obtain ⟨lb, cb, Gb, Ub, rfl, hmb, hbi⟩ := mat_of hh (by omega)
      have HMB : Hid (Mat wi wr.heap.size wi.heap.size lb cb t t Gb Ub (invOf t (rowsR t R))) := hmb
      have HKI : Hid (Kept wi b B t r (n + 12 * t) 0 0) := hkept.out.below hbi
      have HEI : Hid (Keeps b (b + 1) w wi) := hkeep.out.trans (Keeps.of_below hbi)
      clear hh hmb hbi hkept hkeep HII
      go_wp2_with fail
      go_ret
      exact ⟨HKI.out, HEI.out, .inr ⟨lb, cb, Gb, Ub, rfl, _, HMB.out⟩⟩
set_option maxHeartbeats 4000000 in
set_option maxRecDepth 100000 in
theorem data_any (w : World) (b B k r n m c cc : Nat) (lo co : Option Addr) (cl : Nat) (A : Nat -> Option Addr) (C L : Nat -> Nat) (H : M) (R : Nat -> Nat) (hk1 : 1 <= k) (hk : k <= 12) (hr : r <= 4) (hm1 : 1 <= m) (hm : m <= 65536) (hn : n <= 5000) (hB : B <= w.heap.size)
    (hkept : Kept w b B k r n 0 0) (hl : Lst w lo (k + r) A C L H) (hL : ∀ i, i < k + r -> L i = 0 \/ L i = m) (hsel : Sel L (k + r) c R) (hc : k <= c) (hco : RdI w co k (fun t => (R t : Int))) :
    Calls Try.prog 26 #[.map (some b), .int .i64 (k : Int), .int .i64 (r : Int), .slice lo (k + r) cl, .slice co k cc] w fun e w' => ∃ ao cap T U, e = .returned (.slice ao k cap) /\ Copied w' w.heap.size k (.slice ao k cap) T (fun _ => m) U (dec k R H) /\ Kept w' b B k r (n + 12 * k) 0 0 /\ Keeps b (b + 1) w w' := by
  obtain ⟨j0, hj, hj0, hj1, hj2⟩ := info_parts info23c
  have HK : Hid (Kept w b B k r n 0 0) := hkept
  have HL : Hid (Lst w lo (k + r) A C L H) := hl
  have HLL : Hid (∀ i, i < k + r -> L i = 0 \/ L i = m) := hL
  have HSEL : Hid (Sel L (k + r) c R) := hsel
  have HCO : Hid (RdI w co k (fun t => (R t : Int))) := hco
  obtain ⟨bl, ol, rfl, hcl⟩ := hl.at_ (by omega)
  have HCL : Hid (∀ i, i < k + r -> w.cell? ⟨bl, ol + i, none⟩ = some (.slice (A i) (L i) (C i))) := hcl
  obtain ⟨bc, oc, rfl, hcc⟩ := hco (by omega)
  have HCC : Hid (∀ i, i < k -> w.cell? ⟨bc, oc + i, none⟩ = some (.int .i64 (R i : Int))) := hcc
  clear hkept hl hL hsel hco hcl hcc
  go_enter Try.func26, Try.ntmps26
  go_wp2
  go_loopw [11, 19] (fun u x wr => ∃ t : Nat, t <= k /\ x = .int .i64 t /\ (∃ a2 c2, u = .slice a2 t c2) /\ Hid (wr.ownsRow w.heap.size 23 1 u t (rowsOf t (fun s => A (R s)) (fun _ => m) (fun s => C (R s)))) /\ Hid (Below w.heap.size w wr)) (fun _ x _ => k - (intOf x).toNat)
  case atStart => exact ⟨0, Nat.zero_le _, rfl, ⟨none, 0, rfl⟩, World.ownsRow_nil _ _ _ _, Below.refl _ _⟩
  case round =>
    obtain ⟨t, htk, rfl, ⟨a2, c2, rfl⟩, hpick, hkeep⟩ := hrel
    by_cases hlt : t < k
    · have hws := hkeep.out.size
      obtain ⟨q, hq⟩ : ∃ q, q = R t := ⟨_, rfl⟩
      have hqn : q < k + r := by rw [hq]; exact HSEL.out.lt t (by omega)
      have hLq : L q = m := by
        rcases HLL.out q hqn with e | e
        · exact absurd e (by rw [hq]; exact HSEL.out.there t (by omega))
        · exact e
      have d1 : wr.cell? ⟨bc, oc + t, none⟩ = some (.int .i64 (q : Int)) := by rw [hq]; exact held (HCC.out t hlt) hkeep.out
      have dq : wr.cell? ⟨bl, ol + q, none⟩ = some (.slice (A q) m (C q)) := by have := held (HCL.out q hqn) hkeep.out; rwa [hLq] at this
      have HQ : Hid (q = R t) := hq
      obtain ⟨YS, hYS⟩ : ∃ Y, Y = rowsOf t (fun s => A (R s)) (fun _ => m) (fun s => C (R s)) := ⟨_, rfl⟩
      have HYS : Hid (rowsOf t (fun s => A (R s)) (fun _ => m) (fun s => C (R s)) = YS) := hYS.symm
      have HOU : Hid (wr.ownsRow w.heap.size 23 1 (.slice a2 t c2) t YS) := (by rw [hYS]; exact hpick.out)
      have i1 : (0 : Int) <= (t : Int) := by omega
      have i2 : (t : Int) < (k : Int) := by omega
      have i3 : (0 : Int) <= (q : Int) := by omega
      have i4 : (q : Int) < (k : Int) + (r : Int) := by omega
      clear hpick hYS hq hLq
      go_wp2_with (at_builtin; refine wpList_append_lies _ (by rfl) (.tmp 23) (.tmp 28) 24 (by rfl) w.heap.size 23 j0 (.slice none 0 0) 1 24 Try.underlying24 hj hj0 hj1 hj2 (by rfl) (by decide) (.slice a2 t c2) t YS (by rfl) (HOU.out.alloc _) ⟨wr.heap.size, 0, none⟩ 1 1 [.slice (A q) m (C q)] (by rfl) (by rfl) (World.news_of_block (heap_alloc_new wr _)) (by simp [Value.oneCell']) (by decide) (by unfold maxLen; omega) (by omega) (by simp; omega) (wr.heap.size + 1) (by simp) ?_; intro g3 cap3 w3 hown3 hgrow3 _ _)
      have HP3 : Hid (w3.ownsRow w.heap.size 23 1 (.slice (some ⟨g3, 0, none⟩) (t + 1) cap3) (t + 1) (rowsOf (t + 1) (fun s => A (R s)) (fun _ => m) (fun s => C (R s)))) := by
        show w3.ownsRow _ _ _ _ _ _
        have h3 := hown3
        rw [<- HYS.out, HQ.out] at h3
        refine (congrArg (w3.ownsRow w.heap.size 23 1 (.slice (some ⟨g3, 0, none⟩) (t + 1) cap3) (t + 1)) ?_).mp h3
        simp [rowsOf, List.range_succ]
      have HE3 : Hid (Below w.heap.size w w3) := (hkeep.out.alloc hws _).grown hgrow3 (by simp; omega) (fun q hq => (HOU.out.lt q hq).1)
      clear hown3 hgrow3
      go_roundw
      case rel => exact ⟨t + 1, by omega, by go_num, ⟨_, _, rfl⟩, HP3, HE3⟩
      case measure => simp [intOf]; omega
    · obtain rfl : t = k := by omega
      have S0 : Hid (Stay w wr) := Stay.of_below hkeep.out
      have HKr : Hid (Kept wr b B t r n 0 0) := HK.out.below hkeep.out
      have HF : Hid (Lst wr a2 t (fun s => A (R s)) (fun s => C (R s)) (fun _ => m) (fun s => H (R s))) := pickC_lst hpick.out fun s hs => by
        have hqn := HSEL.out.lt s (by omega)
        have := (HL.out.rd (R s) hqn).stay S0.out
        rcases HLL.out (R s) hqn with e | e
        · exact absurd e (HSEL.out.there s (by omega))
        · rwa [e] at this
      have hwr := hkeep.out.size
      have HKW : Hid (Below w.heap.size w wr) := hkeep.out
      have HBK := back_any wr b B t r n c cc (some ⟨bc, oc, none⟩) L R hk1 hk hr hn (by omega) HKr.out HSEL.out hc (fun hp => ⟨bc, oc, rfl, fun i hi => held (HCC.out i hi) hkeep.out⟩)
      have HBB : Hid (Calls Try.prog 38 #[.map (some b), .int .i64 (t : Int), .int .i64 (r : Int), .slice (some ⟨bc, oc, none⟩) t cc] wr fun e w' => Kept w' b B t r (n + 12 * t) 0 0 /\ Keeps b (b + 1) wr w' /\ ((R (t - 1) < t /\ e = .returned (.slice none 0 0)) \/ ∃ lb cb Gb Ub, e = .returned (.slice (some ⟨lb, 0, none⟩) t cb) /\ ∃ B0, Mat w' B0 w'.heap.size lb cb t t Gb Ub (invOf t (rowsR t R)))) := HBK
      obtain ⟨wm, rfl⟩ : ∃ x, x = wr := ⟨wr, rfl⟩
      clear hpick hkeep HBK
      go_wp2_with fail
      refine HBB.out.mono ?_
      rintro e wi ⟨hki, hei, hc2⟩
      have HSM : Hid (Stay wm wi) := HKr.out.stay hei
      have HFI : Hid (Lst wi a2 t (fun s => A (R s)) (fun s => C (R s)) (fun _ => m) (fun s => H (R s))) := HF.out.stay HSM.out
      have HKI : Hid (Kept wi b B t r (n + 12 * t) 0 0) := hki
      have HEI : Hid (Keeps b (b + 1) w wi) := (Keeps.of_below HKW.out).trans hei
      have HSI : Hid (Stay w wi) := HK.out.stay HEI.out
      have hwi : w.heap.size <= wi.heap.size := HEI.out.size
      obtain ⟨vb, rfl, HMV⟩ : ∃ vb, e = .returned vb /\ Hid ((R (t - 1) < t /\ vb = .slice none 0 0) \/ ∃ lb cb Gb Ub, vb = .slice (some ⟨lb, 0, none⟩) t cb /\ ∃ B0, Mat wi B0 wi.heap.size lb cb t t Gb Ub (invOf t (rowsR t R))) := by
        rcases hc2 with ⟨h1, rfl⟩ | ⟨lb, cb, Gb, Ub, rfl, B0, hm0⟩
        · exact ⟨_, rfl, .inl ⟨h1, rfl⟩⟩
        · exact ⟨_, rfl, .inr ⟨lb, cb, Gb, Ub, rfl, B0, hm0⟩⟩
      clear hki hei hc2 S0 HF HBB HKr HKW
      go_wp2_with fail
      go_loopw [12, 37] (fun v x wr => ∃ i : Nat, i <= t /\ x = .int .i64 i /\ (∃ ao cap, v = .slice ao i cap) /\ Hid (∃ T U, Copied wr wi.heap.size i v T (fun _ => m) U (dec t R H)) /\ Hid (Below wi.heap.size wi wr)) (fun _ x _ => t - (intOf x).toNat)
      case atStart => exact ⟨0, Nat.zero_le _, rfl, ⟨none, 0, rfl⟩, ⟨fun _ => none, fun _ => 0, Copied.start _ _ _ _ _ _⟩, Below.refl _ _⟩
      case round =>
        obtain ⟨i, hit, rfl, ⟨ao, cap, rfl⟩, hcop, hbel⟩ := hrel
        by_cases hlt : i < t
        · obtain ⟨T, U', hcp⟩ := hcop.out
          have HCP : Hid (Copied wr wi.heap.size i (.slice ao i cap) T (fun _ => m) U' (dec t R H)) := hcp
          have hbw := hbel.out.size
          obtain ⟨XS, hXS⟩ : ∃ X, X = rowsOf i T (fun _ => m) U' := ⟨_, rfl⟩
          have HXS : Hid (rowsOf i T (fun _ => m) U' = XS) := hXS.symm
          have HST : Hid (Stay w wr) := HSI.out.trans (Stay.of_below hbel.out)
          have d1 := HST.out.cell (HCL.out i (by omega))
          have i1 : (0 : Int) <= (i : Int) := by omega
          have i2 : (i : Int) < (t : Int) + (r : Int) := by omega
          have i3 : (i : Int) < (t : Int) := by omega
          clear hcop hcp hXS
          rcases HLL.out i (by omega) with hz | hz
          · obtain ⟨lb, cb, Gb, Ub, rfl, B0, hm0⟩ : ∃ lb cb Gb Ub, vb = .slice (some ⟨lb, 0, none⟩) t cb /\ ∃ B0, Mat wi B0 wi.heap.size lb cb t t Gb Ub (invOf t (rowsR t R)) := by
              rcases HMV.out with ⟨h1, _⟩ | h1
              · exact absurd hz (HSEL.out.low hc h1 hlt)
              · exact h1
            have HMB : Hid (Mat wi B0 wi.heap.size lb cb t t Gb Ub (invOf t (rowsR t R))) := hm0
            clear hm0
            rw [hz] at d1
            have d2 := held (HMB.out.cell_l hlt) hbel.out
            have HS := sum_any wr (some ⟨Gb i, 0, none⟩) a2 t (Ub i) c2 m (invOf t (rowsR t R) i) _ _ _ _ hk1 (by omega) hm1 hm ((HMB.out.row i hlt).below hbel.out).rd (HFI.out.below hbel.out) (fun _ _ => rfl)
            have HSS : Hid (Calls Try.prog 37 #[.slice (some ⟨Gb i, 0, none⟩) t (Ub i), .slice a2 t c2] wr fun e w' => ∃ g, e = .returned (.slice (some ⟨g, 0, none⟩) m m) /\ wr.heap.size <= g /\ Own w' g m m (dec t R H i) /\ Below wr.heap.size wr w') := HS
            clear hz HS
            go_wp2_with (first
              | (go_at_call 37; refine HSS.out.mono ?_; rintro e w2 ⟨g2, rfl, hg2, ho2, hb2⟩
                 have HO2 : Hid (Own w2 g2 m m (dec t R H i)) := ho2
                 have HB2 : Hid (Below wr.heap.size wr w2) := hb2
                 have HC2 : Hid (Copied w2 wi.heap.size i (.slice ao i cap) T (fun _ => m) U' (dec t R H)) := HCP.out.stay (Stay.of_below hb2)
                 have HOV : Hid (w2.ownsRow wi.heap.size 23 1 (.slice ao i cap) i XS) := (by rw [<- HXS.out]; exact HC2.out.out)
                 have hs2 : wi.heap.size <= w2.heap.size := Nat.le_trans hbw hb2.size
                 clear ho2 hb2 HSS)
              | (at_builtin; refine wpList_append_lies _ (by rfl) (.tmp 54) (.tmp 61) 24 (by rfl) wi.heap.size 23 j0 (.slice none 0 0) 1 24 Try.underlying24 hj hj0 hj1 hj2 (by rfl) (by decide) (.slice ao i cap) i XS (by rfl) (HOV.out.alloc _) ⟨w2.heap.size, 0, none⟩ 1 1 [.slice (some ⟨g2, 0, none⟩) m m] (by rfl) (by rfl) (World.news_of_block (heap_alloc_new w2 _)) (by simp [Value.oneCell']) (by decide) (by unfold maxLen; omega) (by omega) (by simp; omega) (w2.heap.size + 1) (by simp) ?_; intro g3 cap3 w3 hown3 hgrow3 _ _))
            have HC3 : Hid (∃ T U, Copied w3 wi.heap.size (i + 1) (.slice (some ⟨g3, 0, none⟩) (i + 1) cap3) T (fun _ => m) U (dec t R H)) := by
              have hp := HC2.out.push (owns_base (own_owns HO2.out) (by omega)) (fun x a b hx ea eb => by
                have := HCP.out.old hx ea
                cases eb
                show a.block ≠ g2
                omega) hgrow3 (by rw [HXS.out]; exact hown3)
              exact ⟨_, _, hp.congr (fun _ _ => rfl) (fun x _ => put_self i x (fun _ => m)) (fun _ _ => rfl) (fun x _ => put_self i x (dec t R H))⟩
            have HB3 : Hid (Below wi.heap.size wi w3) := ((below_step hbel.out HB2.out hbw).alloc hs2 _).grown hgrow3 (by simp; omega) (fun q hq => (HOV.out.lt q hq).1)
            clear hown3 hgrow3
            go_roundw
            case rel => exact ⟨i + 1, by omega, by go_num, ⟨_, _, rfl⟩, HC3, HB3⟩
            case measure => simp [intOf]; omega
          · rw [hz] at d1
            have hmp : (0 : Int) < (m : Int) := by omega
            have HCN := clone_any wr (A i) m (C i) (H i) hm1 hm (by have := (HL.out.rd i (by omega)).stay HST.out; rwa [hz] at this)
            have HD : Hid (H i = dec t R H i) := by
              show _ = _
              obtain ⟨s, hs, hsi⟩ := HSEL.out.all i (by omega) (by omega)
              have hst := HSEL.out.ge s hs
              funext y
              rw [<- hsi]
              exact (dec_there H hk (show t + r <= 16 by omega) (fun s hs => HSEL.out.lt s (by omega)) (fun s s' h1 h2 => HSEL.out.rise s s' h1 (by omega)) s y (by omega) (by omega)).symm
            have HCC' : Hid (Calls Try.prog 39 #[.slice (A i) m (C i)] wr fun e w' => ∃ g u, e = .returned (.slice (some ⟨g, 0, none⟩) m u) /\ wr.heap.size <= g /\ Own w' g m u (H i) /\ Below wr.heap.size wr w') := HCN
            clear hz HCN
            go_wp2_with (first
              | (go_at_call 39; refine HCC'.out.mono ?_; rintro e w2 ⟨g2, u2, rfl, hg2, ho2, hb2⟩
                 have HO2 : Hid (Own w2 g2 m u2 (dec t R H i)) := (by rw [<- HD.out]; exact ho2)
                 have HB2 : Hid (Below wr.heap.size wr w2) := hb2
                 have HC2 : Hid (Copied w2 wi.heap.size i (.slice ao i cap) T (fun _ => m) U' (dec t R H)) := HCP.out.stay (Stay.of_below hb2)
                 have HOV : Hid (w2.ownsRow wi.heap.size 23 1 (.slice ao i cap) i XS) := (by rw [<- HXS.out]; exact HC2.out.out)
                 have hs2 : wi.heap.size <= w2.heap.size := Nat.le_trans hbw hb2.size
                 clear ho2 hb2 HCC')
              | (at_builtin; refine wpList_append_lies _ (by rfl) (.tmp 46) (.tmp 52) 24 (by rfl) wi.heap.size 23 j0 (.slice none 0 0) 1 24 Try.underlying24 hj hj0 hj1 hj2 (by rfl) (by decide) (.slice ao i cap) i XS (by rfl) (HOV.out.alloc _) ⟨w2.heap.size, 0, none⟩ 1 1 [.slice (some ⟨g2, 0, none⟩) m u2] (by rfl) (by rfl) (World.news_of_block (heap_alloc_new w2 _)) (by simp [Value.oneCell']) (by decide) (by unfold maxLen; omega) (by omega) (by simp; omega) (w2.heap.size + 1) (by simp) ?_; intro g3 cap3 w3 hown3 hgrow3 _ _))
            have HC3 : Hid (∃ T U, Copied w3 wi.heap.size (i + 1) (.slice (some ⟨g3, 0, none⟩) (i + 1) cap3) T (fun _ => m) U (dec t R H)) := by
              have hp := HC2.out.push (owns_base (own_owns HO2.out) (by omega)) (fun x a b hx ea eb => by
                have := HCP.out.old hx ea
                cases eb
                show a.block ≠ g2
                omega) hgrow3 (by rw [HXS.out]; exact hown3)
              exact ⟨_, _, hp.congr (fun _ _ => rfl) (fun x _ => put_self i x (fun _ => m)) (fun _ _ => rfl) (fun x _ => put_self i x (dec t R H))⟩
            have HB3 : Hid (Below wi.heap.size wi w3) := ((below_step hbel.out HB2.out hbw).alloc hs2 _).grown hgrow3 (by simp; omega) (fun q hq => (HOV.out.lt q hq).1)
            clear hown3 hgrow3
            go_roundw
            case rel => exact ⟨i + 1, by omega, by go_num, ⟨_, _, rfl⟩, HC3, HB3⟩
            case measure => simp [intOf]; omega
        · obtain rfl : i = t := by omega
          obtain ⟨T, U', hcp⟩ := hcop.out
          have HQ : Hid (Copied wr w.heap.size i (.slice ao i cap) T (fun _ => m) U' (dec i R H)) := hcp.base hwi
          clear hcop hcp
          go_wp2_with fail
          go_ret
          exact ⟨ao, cap, T, U', rfl, HQ.out, HKI.out.below hbel.out, HEI.out.trans (Keeps.of_below hbel.out)⟩
end Go.Proofs.Ythkikocacbbhkaa
