import Derived.BigQuiet
import Derived.Laws.StructEq
import Derived.Test.YtmoenmpbkockoaaGreatWj50
namespace Go.Proofs.YtmoenmpbkockoaaGreat
open Go.RowKit
set_option maxHeartbeats 4000000 in
set_option maxRecDepth 100000 in
theorem whole_bad {k r c q : Int} {n : Nat} {F : Nat -> List UInt8} {o E A D : Int} {M : Nat} {R V : Nat -> Int} {y : Int} {l s : Nat} {SR SV : Nat -> Int} (h : Ob k r c q n F o E A D M R V y l s SR SV) (hE : E ≠ 0) (w : World) (lo : Option Addr) (cl : Nat) (hcl : n <= cl) (A0 : Nat -> Option Addr) (C0 : Nat -> Nat) (hl : Im.Lst w lo n A0 C0 F) :
    Calls Tryz.prog 5 #[.agg #[.int .i64 k, .int .i64 r, .int .i64 c, .int .i64 q, .slice lo n cl], .int .i64 o] w fun e w' => e = .returned (.bool true) /\ Below w.heap.size w w' := by
  have hz : (E != 0) = true := by simpa using hE
  have HO : Hid (∀ u, Below w.heap.size w u -> Calls Tryz.prog 22 #[.agg #[.int .i64 k, .int .i64 r, .int .i64 c, .int .i64 q, .slice lo n cl], .int .i64 o] u (AnsO u E A D M R V y l s SR SV)) := fun u hu => Object_any h u lo cl hcl A0 C0 (hl.below hu)
  have HS : Hid (∀ u, Below w.heap.size w u -> Calls Tryz.prog 24 #[.agg #[.int .i64 k, .int .i64 r, .int .i64 c, .int .i64 q, .slice lo n cl], .int .i64 o] u (AnsLv u E (l + s + 1) (lvA o l R SR) (lvA y l V SV))) := fun u hu => Stripes_tr h u lo cl hcl A0 C0 (hl.below hu)
  have HR : Hid (∀ u, Below w.heap.size w u -> Calls Tryz.prog 23 #[.agg #[.int .i64 k, .int .i64 r, .int .i64 c, .int .i64 q, .slice lo n cl], .int .i64 o] u fun e w' => e = .returned (.tuple #[.slice none 0 0, .int .i64 E]) /\ Below u.heap.size u w') := fun u hu => Rows_bad u lo n cl o E hE _ _ _ (fun v hv => Stripes_tr h v lo cl hcl A0 C0 (hl.below (below_then hu hv)))
  have HA : Hid (∀ u, Calls Tryz.prog 20 #[] u fun e w' => e = .returned (.bool true) /\ Below u.heap.size u w') := fun u => awake_any u
  have HB : Hid (∀ u, Calls Tryz.prog 21 #[.agg #[.int .i64 k, .int .i64 r, .int .i64 c, .int .i64 q, .slice lo n cl]] u fun e w' => (∃ b, e = .returned (.bool b)) /\ Below u.heap.size u w') := fun u => big_any k r c q lo n cl u
  unfold AnsO at HO
  unfold AnsLv at HS
  rw [lenE_ne _ hE, lenE_ne _ hE, lenE_ne _ hE, De.lenI_not hE, De.lenI_not hE, De.lenI_not hE] at HO
  rw [lenE_ne _ hE] at HS
  clear hE h hl
  obtain ⟨w0, hw0⟩ : ∃ w0, w0 = w.alloc (.cells #[.int .i64 k, .int .i64 r, .int .i64 c, .int .i64 q, .slice lo n cl] 51) := ⟨_, rfl⟩
  have b0 : Below w.heap.size w w0 := by rw [hw0]; exact below_alloc _ _
  have HQ : Hid (∀ u, Below w0.heap.size w0 u -> u.cell? ⟨w.heap.size, 0, none⟩ = some (.int .i64 k) /\ u.cell? ⟨w.heap.size, 1, none⟩ = some (.int .i64 r) /\ u.cell? ⟨w.heap.size, 2, none⟩ = some (.int .i64 c) /\ u.cell? ⟨w.heap.size, 3, none⟩ = some (.int .i64 q) /\ u.cell? ⟨w.heap.size, 4, none⟩ = some (.slice lo n cl)) := fun u hu => mea_held hw0 hu
  have HB0 : Hid (Below w.heap.size w w0) := b0
  go_enter Tryz.func5, Tryz.ntmps5
  go_wp2_with fail
  rw [<- hw0]
  clear hw0 b0
  refine (HA.out _).mono ?_
  rintro e wa ⟨rfl, ha⟩
  obtain ⟨s0, s1, s2, s3, s4⟩ := HQ.out wa ha
  go_wp2_with fail
  refine (HB.out _).mono ?_
  rintro e wb ⟨⟨b, rfl⟩, hb⟩
  have hab := below_then ha hb
  clear s0 s1 s2 s3 s4 ha hb
  obtain ⟨s0, s1, s2, s3, s4⟩ := HQ.out wb hab
  cases b
  · go_wp2_with fail
    refine (HO.out _ (below_then HB0.out hab)).mono ?_
    rintro e wc ⟨ao, cp, lo', lc, so, sc, rfl, _, _, _, hc⟩
    have hac := below_then hab hc
    obtain ⟨wd, hwd⟩ : ∃ wd, wd = wc.alloc (.cells #[.int .i64 0, .int .i64 0, .slice ao 0 cp] 27) := ⟨_, rfl⟩
    have bd : Below wc.heap.size wc wd := by rw [hwd]; exact below_alloc _ _
    have had := below_then hac bd
    have HD : Hid (∀ u, Below wd.heap.size wd u -> u.cell? ⟨wc.heap.size, 0, none⟩ = some (.int .i64 0)) := fun u hu => blk_held hwd hu 0 rfl
    clear s0 s1 s2 s3 s4 hab hc bd
    have s0 := fun o => (HQ.out (wc.alloc o) (below_then hac (below_alloc _ o))).1
    have s1 := fun o => (HQ.out (wc.alloc o) (below_then hac (below_alloc _ o))).2.1
    have s2 := fun o => (HQ.out (wc.alloc o) (below_then hac (below_alloc _ o))).2.2.1
    have s3 := fun o => (HQ.out (wc.alloc o) (below_then hac (below_alloc _ o))).2.2.2.1
    have s4 := fun o => (HQ.out (wc.alloc o) (below_then hac (below_alloc _ o))).2.2.2.2
    clear hac
    go_wp2_with fail
    rw [<- hwd]
    refine (HR.out _ (below_then HB0.out had)).mono ?_
    rintro e we ⟨rfl, he⟩
    have hae := below_then had he
    clear s0 s1 s2 s3 s4
    obtain ⟨s0, s1, s2, s3, s4⟩ := HQ.out we hae
    go_wp2_with fail
    refine (HS.out _ (below_then HB0.out hae)).mono ?_
    rintro e wf ⟨vo, vc, rfl, _, hf⟩
    have haf := below_then hae hf
    have d0 := HD.out wf (below_then he hf)
    clear s0 s1 s2 s3 s4 hwd had he hae hf HO HS HR HA HB HD
    have hzz : (E == E) = true := by simp
    go_wp2_with fail
    go_ret
    exact ⟨rfl, below_then HB0.out haf⟩
  · go_wp2_with fail
    go_ret
    exact ⟨rfl, below_then HB0.out hab⟩
set_option maxHeartbeats 8000000 in
set_option maxRecDepth 100000 in
theorem whole_good {k r c q : Int} {n : Nat} {F : Nat -> List UInt8} {o A D : Int} {M : Nat} {R V : Nat -> Int} {y : Int} {l s : Nat} {SR SV : Nat -> Int} (h : Ob k r c q n F o 0 A D M R V y l s SR SV) (w : World) (lo : Option Addr) (cl : Nat) (hcl : n <= cl) (A0 : Nat -> Option Addr) (C0 : Nat -> Nat) (hl : Im.Lst w lo n A0 C0 F) :
    Calls Tryz.prog 5 #[.agg #[.int .i64 k, .int .i64 r, .int .i64 c, .int .i64 q, .slice lo n cl], .int .i64 o] w fun e w' => e = .returned (.bool true) /\ Below w.heap.size w w' := by
  obtain ⟨NN, WW, hpar, hmade, hl1, hs1⟩ := ob_good h
  have HO : Hid (∀ u, Below w.heap.size w u -> Calls Tryz.prog 22 #[.agg #[.int .i64 k, .int .i64 r, .int .i64 c, .int .i64 q, .slice lo n cl], .int .i64 o] u (AnsO u 0 A D M R V y l s SR SV)) := fun u hu => Object_any h u lo cl hcl A0 C0 (hl.below hu)
  have HS : Hid (∀ u, Below w.heap.size w u -> Calls Tryz.prog 24 #[.agg #[.int .i64 k, .int .i64 r, .int .i64 c, .int .i64 q, .slice lo n cl], .int .i64 o] u (AnsLv u 0 (l + s + 1) (lvA o l R SR) (lvA y l V SV))) := fun u hu => Stripes_tr h u lo cl hcl A0 C0 (hl.below hu)
  have HR : Hid (∀ u, Below w.heap.size w u -> Calls Tryz.prog 23 #[.agg #[.int .i64 k, .int .i64 r, .int .i64 c, .int .i64 q, .slice lo n cl], .int .i64 o] u fun e w' => ∃ ao cap, e = .returned (.tuple #[.slice ao (mts (lvA o l R SR) (l + s + 1)).length cap, .int .i64 0]) /\ RdL w' ao (mts (lvA o l R SR) (l + s + 1)) /\ Below u.heap.size u w') := fun u hu => Rows_good u lo n cl o (l + s + 1) (by omega) (by omega) (lvA o l R SR) (lvA y l V SV) (fun v hv => Stripes_tr h v lo cl hcl A0 C0 (hl.below (below_then hu hv)))
  have HA : Hid (∀ u, Calls Tryz.prog 20 #[] u fun e w' => e = .returned (.bool true) /\ Below u.heap.size u w') := fun u => awake_any u
  have HB : Hid (∀ u, Calls Tryz.prog 21 #[.agg #[.int .i64 k, .int .i64 r, .int .i64 c, .int .i64 q, .slice lo n cl]] u fun e w' => (∃ b, e = .returned (.bool b)) /\ Below u.heap.size u w') := fun u => big_any k r c q lo n cl u
  unfold AnsO at HO
  unfold AnsLv at HS
  rw [lenE_zero, lenE_zero, lenE_zero, De.lenI_zero, De.lenI_zero, De.lenI_zero] at HO
  rw [lenE_zero] at HS
  have HN : Hid (∀ u, Calls Tryz.prog 25 #[.agg #[.int .i64 k, .int .i64 r, .int .i64 c, .int .i64 q], .int .i64 A] u fun e w' => e = .returned (.tuple #[.int .i64 (s : Int), .int .i64 0]) /\ Below u.heap.size u w') := fun u => De.Stripes_any hpar hmade u
  have HK : Hid (∀ u, Calls Tryz.prog 26 #[.agg #[.int .i64 k, .int .i64 r, .int .i64 c, .int .i64 q], .int .i64 A] u fun e w' => e = .returned (.tuple #[.int .i64 (l : Int), .int .i64 0]) /\ Below u.heap.size u w') := fun u => De.Leaves_any hpar hmade u
  have HT : Hid (∀ u, Calls Tryz.prog 27 #[.agg #[.int .i64 k, .int .i64 r, .int .i64 c, .int .i64 q], .int .i64 A] u fun e w' => e = .returned (.tuple #[.int .i64 ((1 + l + s : Nat) : Int), .int .i64 0]) /\ Below u.heap.size u w') := fun u => De.Rows_any hpar hmade u
  clear h hl hpar hmade
  obtain ⟨w0, hw0⟩ : ∃ w0, w0 = w.alloc (.cells #[.int .i64 k, .int .i64 r, .int .i64 c, .int .i64 q, .slice lo n cl] 51) := ⟨_, rfl⟩
  have b0 : Below w.heap.size w w0 := by rw [hw0]; exact below_alloc _ _
  have HQ : Hid (∀ u, Below w0.heap.size w0 u -> u.cell? ⟨w.heap.size, 0, none⟩ = some (.int .i64 k) /\ u.cell? ⟨w.heap.size, 1, none⟩ = some (.int .i64 r) /\ u.cell? ⟨w.heap.size, 2, none⟩ = some (.int .i64 c) /\ u.cell? ⟨w.heap.size, 3, none⟩ = some (.int .i64 q) /\ u.cell? ⟨w.heap.size, 4, none⟩ = some (.slice lo n cl)) := fun u hu => mea_held hw0 hu
  have HB0 : Hid (Below w.heap.size w w0) := b0
  go_enter Tryz.func5, Tryz.ntmps5
  go_wp2_with fail
  rw [<- hw0]
  clear hw0 b0
  refine (HA.out _).mono ?_
  rintro e wa ⟨rfl, ha⟩
  obtain ⟨s0, s1, s2, s3, s4⟩ := HQ.out wa ha
  go_wp2_with fail
  refine (HB.out _).mono ?_
  rintro e wb ⟨⟨b, rfl⟩, hb⟩
  have hab := below_then ha hb
  clear s0 s1 s2 s3 s4 ha hb
  obtain ⟨s0, s1, s2, s3, s4⟩ := HQ.out wb hab
  cases b
  · go_wp2_with fail
    refine (HO.out _ (below_then HB0.out hab)).mono ?_
    rintro e wc ⟨ao, cp, lo', lc, so, sc, rfl, _, hlv, hst, hc⟩
    have hac := below_then hab hc
    obtain ⟨wd, hwd⟩ : ∃ wd, wd = wc.alloc (.cells #[.int .i64 A, .int .i64 D, .slice ao M cp] 27) := ⟨_, rfl⟩
    have bd : Below wc.heap.size wc wd := by rw [hwd]; exact below_alloc _ _
    have had := below_then hac bd
    have HD : Hid (∀ u, Below wd.heap.size wd u -> u.cell? ⟨wc.heap.size, 0, none⟩ = some (.int .i64 A)) := fun u hu => blk_held hwd hu 0 rfl
    have HL1 : Hid (De.OwR wb.heap.size wd lo' l lc R V) := hlv.below bd
    have HS1 : Hid (De.OwR wb.heap.size wd so s sc SR SV) := hst.below bd
    clear s0 s1 s2 s3 s4 hab hc bd hlv hst
    have s0 := fun o => (HQ.out (wc.alloc o) (below_then hac (below_alloc _ o))).1
    have s1 := fun o => (HQ.out (wc.alloc o) (below_then hac (below_alloc _ o))).2.1
    have s2 := fun o => (HQ.out (wc.alloc o) (below_then hac (below_alloc _ o))).2.2.1
    have s3 := fun o => (HQ.out (wc.alloc o) (below_then hac (below_alloc _ o))).2.2.2.1
    have s4 := fun o => (HQ.out (wc.alloc o) (below_then hac (below_alloc _ o))).2.2.2.2
    clear hac
    go_wp2_with fail
    rw [<- hwd]
    refine (HR.out _ (below_then HB0.out had)).mono ?_
    rintro e we ⟨ro, rcp, rfl, hrl, he⟩
    have hae := below_then had he
    clear s0 s1 s2 s3 s4
    obtain ⟨s0, s1, s2, s3, s4⟩ := HQ.out we hae
    go_wp2_with fail
    refine (HS.out _ (below_then HB0.out hae)).mono ?_
    rintro e wf ⟨vo, vc, rfl, hvv, hf⟩
    have haf := below_then hae hf
    have hef := below_then he hf
    clear s0 s1 s2 s3 s4
    obtain ⟨s0, s1, s2, s3, s4⟩ := HQ.out wf haf
    have d0 := HD.out wf hef
    go_wp2_with fail
    refine (HN.out wf).mono ?_
    rintro e wg ⟨rfl, hg⟩
    have hag := below_then haf hg
    clear s0 s1 s2 s3 s4 d0
    obtain ⟨s0, s1, s2, s3, s4⟩ := HQ.out wg hag
    have d0 := HD.out wg (below_then hef hg)
    go_wp2_with fail
    refine (HK.out wg).mono ?_
    rintro e wh ⟨rfl, hh⟩
    have hah := below_then hag hh
    clear s0 s1 s2 s3 s4 d0
    obtain ⟨s0, s1, s2, s3, s4⟩ := HQ.out wh hah
    have d0 := HD.out wh (below_then hef (below_then hg hh))
    go_wp2_with fail
    refine (HT.out wh).mono ?_
    rintro e wi ⟨rfl, hi⟩
    have hfi := below_then hg (below_then hh hi)
    have HBI : Hid (Below w.heap.size w wi) := below_then HB0.out (below_then haf hfi)
    have HLi : Hid (De.OwR wb.heap.size wi lo' l lc R V) := HL1.out.below (below_then hef hfi)
    have HSi : Hid (De.OwR wb.heap.size wi so s sc SR SV) := HS1.out.below (below_then hef hfi)
    have HVi : Hid (OwV we.heap.size wi vo (l + s + 1) vc (lvA o l R SR) (lvA y l V SV)) := hvv.below hfi
    have HRi : Hid (RdL wi ro (mts (lvA o l R SR) (l + s + 1))) := hrl.below (below_then hf hfi)
    obtain ⟨gv, hgv, _, _, hcv⟩ := HVi.out.at_ (by omega)
    subst hgv
    have HCV : Hid (∀ u, Below wi.heap.size wi u -> ∀ i, i < l + s + 1 -> u.cell? ⟨gv, i * 3, none⟩ = some (.int .i64 (lvA o l R SR i)) /\ u.cell? ⟨gv, i * 3 + 1, none⟩ = some (.int .u8 (if i = 0 then 2 else 1)) /\ u.cell? ⟨gv, i * 3 + 2, none⟩ = some (.int .i64 (lvA y l V SV i))) := fun u hu i h => ⟨held (hcv i h).1 hu, held (hcv i h).2.1 hu, held (hcv i h).2.2 hu⟩
    obtain ⟨v0, v1, v2⟩ := hcv 0 (by omega)
    rw [lvA_zero] at v0 v2
    rw [if_pos rfl] at v1
    rw [Nat.zero_mul] at v0
    rw [Nat.zero_mul, Nat.zero_add] at v1 v2
    have e1 : ((s : Int) != (s : Int)) = false := by simp
    have e2 : ((l : Int) != (l : Int)) = false := by simp
    have e3 : (((l + s + 1 : Nat) : Int) != ((1 + l + s : Nat) : Int)) = false := by simp; omega
    obtain ⟨T, hT⟩ : ∃ T, T = l + s + 1 := ⟨_, rfl⟩
    have HTT : Hid (T = l + s + 1) := hT
    have hT0 : (0 : Int) < (T : Int) := by omega
    have hT1 : ((1 + l + s : Nat) : Int) = (T : Int) := by omega
    rw [<- hT] at e3 HVi HRi HCV ⊢
    rw [hT1] at e3 ⊢
    obtain ⟨ls, hls⟩ : ∃ ls, ls = mts (lvA o l R SR) T := ⟨_, rfl⟩
    have HLS : Hid (ls = mts (lvA o l R SR) T) := hls
    rw [<- hls] at HRi ⊢
    have HTB : Hid (T <= 2000) := by show T <= 2000; omega
    have hspec := mts_spec (lvA o l R SR) T
    rw [<- hls] at hspec
    have HIN : Hid (Inc ls /\ ∀ x, x ∈ ls ↔ ∃ j, j < T /\ lvA o l R SR j = x) := hspec
    have HLN : Hid (ls.length <= T) := by show ls.length <= T; rw [hls]; exact mts_le _ _
    clear hspec
    clear s0 s1 s2 s3 s4 d0 hls hwd had he hae hf haf hef hg hag hh hah hi hfi hvv hrl HO HS HR HA HB HD HN HK HT HL1 HS1 hcv hT
    go_wp2_with fail
    go_loopw [21] (fun x wr => ∃ i : Nat, 1 <= i /\ i <= T /\ x = .int .i64 (i : Int) /\ Hid (Below wi.heap.size wi wr)) (fun x _ => T - (intOf x).toNat)
    case atStart => exact ⟨1, Nat.le_refl _, by omega, rfl, Below.refl _ _⟩
    case round =>
      obtain ⟨i, hi1, hi2, rfl, hb⟩ := hrel
      by_cases hlt : i < T
      · obtain ⟨j, hj⟩ : ∃ j, i = j + 1 := ⟨i - 1, by omega⟩
        obtain ⟨c0, c1, c2⟩ := HCV.out wr hb.out i hlt
        rw [if_neg (by omega)] at c1
        obtain ⟨p, hp⟩ : ∃ p, p = lvA o l R SR i := ⟨_, rfl⟩
        obtain ⟨t, ht⟩ : ∃ t, t = lvA y l V SV i := ⟨_, rfl⟩
        have HP : Hid (De.apI l R SR j = p /\ De.apI l V SV j = t) := ⟨by rw [hp, hj, lvA_succ], by rw [ht, hj, lvA_succ]⟩
        rw [<- hp] at c0
        rw [<- ht] at c2
        have i1 : (0 : Int) <= (i : Int) := by omega
        have i2 : (i : Int) < (T : Int) := by omega
        have hw1 : IntKind.i64.wrap ((i : Int) - 1) = (j : Int) := by rw [IntKind.wrap_i64]; omega
        have HJ : Hid (i = j + 1) := hj
        have HBr : Hid (Below wi.heap.size wi wr) := hb.out
        have k0 := fun o => held c0 (below_alloc wr o)
        have k2 := fun o => held c2 (below_alloc wr o)
        have HC1 : Hid (∀ u, Below wr.heap.size wr u -> u.cell? ⟨gv, i * 3 + 1, none⟩ = some (.int .u8 1)) := fun u hu => held c1 hu
        clear hp ht hj v0 v1 v2 hb
        by_cases hil : i <= l
        · have HA1 := HP.out
          unfold De.apI at HA1
          have hjl : j < l := by have := HJ.out; omega
          rw [if_pos hjl, if_pos hjl] at HA1
          obtain ⟨gl, rfl, hgl1, hgl2⟩ := HLi.out.at_ (by omega)
          obtain ⟨l0, l1⟩ := (HLi.out.below HBr.out).cell hjl
          rw [HA1.1] at l0
          rw [HA1.2] at l1
          have g1 : (i : Int) <= (l : Int) := by omega
          have HG2 : Hid (decide (l < i) = false /\ decide (i <= l) = true) := ⟨decide_eq_false (by omega), decide_eq_true (by omega)⟩
          have j1 : (0 : Int) <= (j : Int) := by omega
          have j2 : (j : Int) < (l : Int) := by omega
          clear HA1 hjl hil HP
          go_wp2_with fail
          go_region
          obtain ⟨wx, hwx⟩ : ∃ wx, wx = (wr.alloc (.cells #[.int .i64 p, .int .i64 t] 63)).drew := ⟨_, rfl⟩
          have bx : Below wr.heap.size wr wx := by rw [hwx]; exact below_then (below_alloc _ _) (below_drew _ _)
          have x0 : wx.cell? ⟨wr.heap.size, 0, none⟩ = some (.int .i64 p) := by rw [hwx]; exact blk_held (w := wr) rfl (below_drew _ _) 0 rfl
          have x1 : wx.cell? ⟨wr.heap.size, 1, none⟩ = some (.int .i64 t) := by rw [hwx]; exact blk_held (w := wr) rfl (below_drew _ _) 1 rfl
          have y1 := HC1.out wx bx
          have y2 := held l0 bx
          have y3 := held l1 bx
          have HBx : Hid (Below wi.heap.size wi wx) := below_then HBr.out bx
          have HTi : Hid (T - (i + 1) < T - i) := by show T - (i + 1) < T - i; omega
          rw [<- hwx]
          clear hwx bx c0 c1 c2 k0 k2 l0 l1 HC1
          go_wp2_with fail
          obtain ⟨q1, q2⟩ := HG2.out
          go_big_quiet (fail)
          have HBq : Hid (Below wi.heap.size wi (wx.drewN nq)) := below_then HBx.out (below_drewN _ _ _)
          clear x0 x1 y1 y2 y3 q1 q2
          go_wp2_with fail
          go_roundw
          case rel => exact ⟨i + 1, by omega, by omega, by go_num, HBq⟩
          case measure => simp [intOf]; omega
        · have HA1 := HP.out
          unfold De.apI at HA1
          have hjl : ¬ j < l := by have := HJ.out; omega
          rw [if_neg hjl, if_neg hjl] at HA1
          obtain ⟨m, hm⟩ : ∃ m, m = j - l := ⟨_, rfl⟩
          rw [<- hm] at HA1
          have hml : m < s := by have := HJ.out; have := HTT.out; omega
          obtain ⟨gl, rfl, hgl1, hgl2⟩ := HSi.out.at_ (by omega)
          obtain ⟨l0, l1⟩ := (HSi.out.below HBr.out).cell hml
          rw [HA1.1] at l0
          rw [HA1.2] at l1
          have HG2 : Hid (decide (l < i) = true /\ decide (i <= l) = false) := ⟨decide_eq_true (by omega), decide_eq_false (by omega)⟩
          have j1 : (0 : Int) <= (m : Int) := by omega
          have j2 : (m : Int) < (s : Int) := by omega
          have hw2 : IntKind.i64.wrap ((j : Int) - (l : Int)) = (m : Int) := by have := HJ.out; rw [IntKind.wrap_i64]; omega
          clear HA1 hjl hil HP hm
          go_wp2_with fail
          go_region
          obtain ⟨wx, hwx⟩ : ∃ wx, wx = (wr.alloc (.cells #[.int .i64 p, .int .i64 t] 63)).drew := ⟨_, rfl⟩
          have bx : Below wr.heap.size wr wx := by rw [hwx]; exact below_then (below_alloc _ _) (below_drew _ _)
          have x0 : wx.cell? ⟨wr.heap.size, 0, none⟩ = some (.int .i64 p) := by rw [hwx]; exact blk_held (w := wr) rfl (below_drew _ _) 0 rfl
          have x1 : wx.cell? ⟨wr.heap.size, 1, none⟩ = some (.int .i64 t) := by rw [hwx]; exact blk_held (w := wr) rfl (below_drew _ _) 1 rfl
          have y1 := HC1.out wx bx
          have y2 := held l0 bx
          have y3 := held l1 bx
          have HBx : Hid (Below wi.heap.size wi wx) := below_then HBr.out bx
          have HTi : Hid (T - (i + 1) < T - i) := by show T - (i + 1) < T - i; omega
          rw [<- hwx]
          clear hwx bx c0 c1 c2 k0 k2 l0 l1 HC1
          go_wp2_with fail
          obtain ⟨q1, q2⟩ := HG2.out
          go_big_quiet (fail)
          have HBq : Hid (Below wi.heap.size wi (wx.drewN nq)) := below_then HBx.out (below_drewN _ _ _)
          clear x0 x1 y1 y2 y3 q1 q2
          go_wp2_with fail
          go_roundw
          case rel => exact ⟨i + 1, by omega, by omega, by go_num, HBq⟩
          case measure => simp [intOf]; omega
      · have hlt2 : ¬ ((i : Int) < (T : Int)) := by omega
        have HB2 : Hid (Below wi.heap.size wi wr) := hb.out
        have HAM : Hid (∀ u z, Below wi.heap.size wi u -> z ∈ ls -> Calls Tryz.prog 28 #[.slice (some ⟨gv, 0, none⟩) T vc, .int .i64 z] u fun e w' => e = .returned (.bool true) /\ w' = u) := fun u z hu hz => among_yes u _ T vc _ _ (HVi.out.below hu) z (by have := HTB.out; omega) ((HIN.out.2 z).1 hz)
        have HLB : Hid (ls.length <= 2000) := Nat.le_trans HLN.out HTB.out
        clear hb v0 v1 v2 hlt
        have hLB := HLB.out
        have hTB := HTB.out
        go_wp2_with fail
        clear hlt2
        go_loopw [23] (fun x wr => ∃ i : Nat, i <= ls.length /\ x = .int .i64 (i : Int) /\ Hid (Below wi.heap.size wi wr)) (fun x _ => ls.length - (intOf x).toNat)
        case atStart => exact ⟨0, Nat.zero_le _, rfl, HB2.out⟩
        case round =>
          clear HB2
          obtain ⟨x, hx, rfl, hb⟩ := hrel
          by_cases hlx : x < ls.length
          · obtain ⟨bl, off, rfl, hcl⟩ := HRi.out (fun e => by rw [e] at hlx; exact absurd hlx (Nat.not_lt_zero _))
            have c1 := held (hcl x hlx) hb.out
            obtain ⟨z, hz⟩ : ∃ z, z = ls[x] := ⟨_, rfl⟩
            have HZ : Hid (z ∈ ls) := by show z ∈ ls; rw [hz]; exact List.getElem_mem _
            rw [<- hz] at c1
            have i1 : (0 : Int) <= (x : Int) := by omega
            have i2 : (x : Int) < ((ls.length : Nat) : Int) := by omega
            by_cases hx0 : x = 0
            · subst hx0
              have c2 : wr.cell? ⟨bl, off, none⟩ = some (.int .i64 z) := c1
              have HBr : Hid (Below wi.heap.size wi wr) := hb.out
              clear hcl hz hb
              go_wp2_with fail
              go_big_quiet ((refine (HAM.out _ z (below_then HBr.out (below_drewN _ _ _)) HZ.out).mono ?_; rintro e w' ⟨rfl, rfl⟩; exact ⟨rfl, _, rfl⟩))
              have HBq : Hid (Below wi.heap.size wi (wr.drewN nq)) := below_then HBr.out (below_drewN _ _ _)
              clear c1 c2
              go_wp2_with fail
              go_roundw
              case rel => exact ⟨1, by omega, by go_num, HBq⟩
              case measure => simp [intOf]; omega
            · obtain ⟨x', hx'⟩ : ∃ x', x = x' + 1 := ⟨x - 1, by omega⟩
              have c0 := held (hcl x' (by omega)) hb.out
              have hinc := List.pairwise_iff_getElem.1 HIN.out.1 x' x (by omega) hlx (by omega)
              rw [<- hz] at hinc
              obtain ⟨zp, hzp⟩ : ∃ zp, zp = ls[x']'(by omega) := ⟨_, rfl⟩
              rw [<- hzp] at c0 hinc
              have hw1 : IntKind.i64.wrap ((x : Int) - 1) = (x' : Int) := by have := HLB.out; rw [IntKind.wrap_i64]; omega
              have HG2 : Hid (decide (0 < x) = true /\ decide (z <= zp) = false) := ⟨decide_eq_true (by omega), decide_eq_false (by omega)⟩
              have j1 : (0 : Int) <= (x' : Int) := by omega
              have j2 : (x' : Int) < ((ls.length : Nat) : Int) := by omega
              have HBr : Hid (Below wi.heap.size wi wr) := hb.out
              have HX1 : Hid (x + 1 <= ls.length) := hlx
              clear hcl hz hb hzp hinc hx' hx0
              go_wp2_with fail
              obtain ⟨q1, q2⟩ := HG2.out
              go_big_quiet ((refine (HAM.out _ z (below_then HBr.out (below_drewN _ _ _)) HZ.out).mono ?_; rintro e w' ⟨rfl, rfl⟩; exact ⟨rfl, _, rfl⟩))
              have HBq : Hid (Below wi.heap.size wi (wr.drewN nq)) := below_then HBr.out (below_drewN _ _ _)
              clear c1 c0 q1 q2
              go_wp2_with fail
              go_roundw
              case rel => exact ⟨x + 1, HX1.out, by have := HLB.out; have := HX1.out; go_num, HBq⟩
              case measure => have := HLB.out; have := HX1.out; simp [intOf]; omega
          · have hlt2 : ¬ ((x : Int) < ((ls.length : Nat) : Int)) := by omega
            have HB3 : Hid (Below wi.heap.size wi wr) := hb.out
            clear hb hlx HAM
            go_wp2_with fail
            clear hlt2
            go_loopw [24] (fun x wr => ∃ i : Nat, i <= T /\ x = .int .i64 (i : Int) /\ Hid (Below wi.heap.size wi wr)) (fun x _ => T - (intOf x).toNat)
            case atStart => exact ⟨0, Nat.zero_le _, rfl, HB3.out⟩
            case round =>
              clear HB3
              obtain ⟨i, hi, rfl, hb⟩ := hrel
              by_cases hlt : i < T
              · obtain ⟨c0, _, _⟩ := HCV.out _ (Below.refl _ _) i hlt
                obtain ⟨p, hp⟩ : ∃ p, p = lvA o l R SR i := ⟨_, rfl⟩
                rw [<- hp] at c0
                have HPM : Hid (p ∈ ls) := (HIN.out.2 p).2 ⟨i, hlt, hp.symm⟩
                have HC0 : Hid (∀ u, Below wi.heap.size wi u -> u.cell? ⟨gv, i * 3, none⟩ = some (.int .i64 p)) := fun u hu => held c0 hu
                have HB4 : Hid (Below wi.heap.size wi wr) := hb.out
                have i1 : (0 : Int) <= (i : Int) := by omega
                have i2 : (i : Int) < (T : Int) := by omega
                clear hp c0 hb
                go_wp2_with fail
                go_loopw [25, 26] (fun b y wr => ∃ j : Nat, j <= ls.length /\ y = .int .i64 (j : Int) /\ (b = .bool true \/ (b = .bool false /\ Hid (∀ t (ht : t < ls.length), t < j -> ls[t] ≠ p))) /\ Hid (Below wi.heap.size wi wr)) (fun _ y _ => ls.length - (intOf y).toNat)
                case atStart => exact ⟨0, Nat.zero_le _, rfl, .inr ⟨rfl, fun t _ h => absurd h (Nat.not_lt_zero _)⟩, HB4.out⟩
                case round =>
                  clear HB4
                  obtain ⟨j, hj, rfl, hbb, hb⟩ := hrel
                  by_cases hlj : j < ls.length
                  · obtain ⟨bl, off, rfl, hcl⟩ := HRi.out (fun e => by rw [e] at hlj; exact absurd hlj (Nat.not_lt_zero _))
                    have c1 := held (hcl j hlj) hb.out
                    have c0 := HC0.out wr hb.out
                    obtain ⟨z, hz⟩ : ∃ z, z = ls[j] := ⟨_, rfl⟩
                    rw [<- hz] at c1
                    have j1 : (0 : Int) <= (j : Int) := by omega
                    have j2 : (j : Int) < ((ls.length : Nat) : Int) := by omega
                    have HBr : Hid (Below wi.heap.size wi wr) := hb.out
                    have HX1 : Hid (j + 1 <= ls.length) := hlj
                    have HZ : Hid (z = ls[j]) := hz
                    clear hcl hb hz
                    rcases hbb with rfl | ⟨rfl, hn⟩
                    · go_wp2_with fail
                      go_big_quiet (fail)
                      have HBq : Hid (Below wi.heap.size wi (wr.drewN nq)) := below_then HBr.out (below_drewN _ _ _)
                      clear c1 c0
                      go_wp2_with fail
                      go_roundw
                      case rel => exact ⟨j + 1, HX1.out, by have := HLB.out; have := HX1.out; go_num, .inl rfl, HBq⟩
                      case measure => have := HLB.out; have := HX1.out; simp [intOf]; omega
                    · by_cases hzp : z = p
                      · subst hzp
                        go_wp2_with fail
                        go_big_quiet (fail)
                        have HBq : Hid (Below wi.heap.size wi (wr.drewN nq)) := below_then HBr.out (below_drewN _ _ _)
                        clear c1 c0
                        go_wp2_with fail
                        go_roundw
                        case rel => exact ⟨j + 1, HX1.out, by have := HLB.out; have := HX1.out; go_num, .inl rfl, HBq⟩
                        case measure => have := HLB.out; have := HX1.out; simp [intOf]; omega
                      · have hzz : (z == p) = false := by simpa using hzp
                        have HNZ : Hid (z ≠ p) := hzp
                        go_wp2_with fail
                        go_big_quiet (fail)
                        have HBq : Hid (Below wi.heap.size wi (wr.drewN nq)) := below_then HBr.out (below_drewN _ _ _)
                        clear c1 c0
                        go_wp2_with fail
                        go_roundw
                        case rel => exact ⟨j + 1, HX1.out, by have := HLB.out; have := HX1.out; go_num, .inr ⟨rfl, fun t ht h => by
                          rcases Nat.lt_succ_iff_lt_or_eq.1 h with g | g
                          · exact hn.out t ht g
                          · subst g; exact fun e => HNZ.out (HZ.out.trans e)⟩, HBq⟩
                        case measure => have := HLB.out; have := HX1.out; simp [intOf]; omega
                  · have hlt2 : ¬ ((j : Int) < ((ls.length : Nat) : Int)) := by omega
                    have HB5 : Hid (Below wi.heap.size wi wr) := hb.out
                    rcases hbb with rfl | ⟨rfl, hn⟩
                    · clear hb
                      go_wp2_with fail
                      go_roundw
                      case rel => exact ⟨i + 1, by omega, by have := HTB.out; go_num, HB5⟩
                      case measure => have := HTB.out; simp [intOf]; omega
                    · obtain ⟨t, ht, e⟩ := List.mem_iff_getElem.1 HPM.out
                      exact absurd e (hn.out t ht (by omega))
              · have hlt2 : ¬ ((i : Int) < (T : Int)) := by omega
                go_wp2_with fail
                go_ret
                exact ⟨rfl, below_then HBI.out hb.out⟩
  · go_wp2_with fail
    go_ret
    exact ⟨rfl, below_then HB0.out hab⟩
end Go.Proofs.YtmoenmpbkockoaaGreat
