import Derived.Lib.SmallJoins
import Derived.Deep.Matrix
import Derived.Deep.FieldsWide
import Derived.OpenShut
import Derived.Test.YtlmpcpfabeakjaaGreatWj47
import Derived.Test.YtlmpcpfabeakjaaGreatWj48
import Derived.Test.YtlmpcpfabeakjaaGreatVj1
import Derived.Test.YtlmpcpfabeakjaaGreatVj5
namespace Go.Proofs.YtlmpcpfabeakjaaGreat
open Go.RowKit
theorem lv_succ {o : Int} {l i : Nat} {R SR : Nat -> Int} (h : i < l) : lvA o l R SR (i + 1) = R i := by
  unfold lvA De.apI
  rw [if_neg (Nat.succ_ne_zero i), Nat.add_sub_cancel, if_pos h]
theorem ck_wF {k r c q : Int} {n : Nat} {F : Nat -> List UInt8} {N Q S : Nat} (Z : Nat -> Int) (h : Im.Ck k r c q n F 0 N Q S) : ∀ j, Im.Ck k r c q n (wF Q Z F j) 0 N Q S
  | 0 => h
  | j + 1 => by
    obtain ⟨h1, h2, h3⟩ := (ck_wF Z h j).ok rfl
    refine .inl ⟨rfl, h1, h2, fun i hi => ?_⟩
    show (Im.wpF Q (Z j).toNat (wF Q Z F j) i).length = 0 \/ (Im.wpF Q (Z j).toNat (wF Q Z F j) i).length = S
    unfold Im.wpF
    by_cases e : i / (2 * Q) = (Z j).toNat
    · rw [if_pos e]; exact .inl rfl
    · rw [if_neg e]; exact h3 i hi
theorem wip_two {k r c q : Int} {n : Nat} {F F0 : Nat -> List UInt8} {N Q S : Nat} {d x k' r' c' q' : Int} {n' : Nat} {F' : Nat -> List UInt8} (hck : Im.Ck k r c q n F0 0 N Q S) (hw : Im.Wip k r c q n F d x k' r' c' q' n' F') :
    (x = 0 /\ k' = k /\ r' = r /\ c' = c /\ q' = q /\ n' = n /\ F' = Im.wpF Q d.toNat F) \/ ¬ x = 0 := by
  obtain ⟨y, N', Q', S', h, hc⟩ := hw
  obtain ⟨⟨_, _, hQ, _⟩, _⟩ := hck.ok rfl
  rcases hc with ⟨rfl, h1, h2, h3, h4, h5, h6, h7, h8, h9⟩ | ⟨_, ⟨h1, rfl⟩ | ⟨_, _, rfl⟩⟩
  · obtain ⟨⟨_, _, hQ', _⟩, _⟩ := h.ok rfl
    obtain rfl : Q' = Q := by omega
    exact .inl ⟨h3, h4, h5, h6, h7, h8, h9⟩
  · exact .inr h1
  · exact .inr (by decide)
set_option maxHeartbeats 16000000 in
set_option maxRecDepth 100000 in
theorem wiped_good {k r c q : Int} {n : Nat} {F : Nat -> List UInt8} {o A D : Int} {M : Nat} {R V : Nat -> Int} {y : Int} {l s : Nat} {SR SV : Nat -> Int} (h : Ob k r c q n F o 0 A D M R V y l s SR SV) (w : World) (lo : Option Addr) (cl : Nat) (hcl : n <= cl) (A0 : Nat -> Option Addr) (C0 : Nat -> Nat) (hl : Im.Lst w lo n A0 C0 F) (xo : Option Addr) (xn xc : Nat) (Z : Nat -> Int) (hZ : RdI w xo xn Z) (hx : ¬ r < (xn : Int)) :
    Calls Tryz.prog 5 #[.agg #[.int .i64 k, .int .i64 r, .int .i64 c, .int .i64 q, .slice lo n cl], .int .i64 o, .slice xo xn xc] w fun e w' => e = .returned (.bool true) /\ Below w.heap.size w w' := by
  obtain ⟨NN, WW, hpar, hmade, hl1, hs1⟩ := ob_good h
  have HO : Hid (∀ u, Below w.heap.size w u -> Calls Tryz.prog 9 #[.agg #[.int .i64 k, .int .i64 r, .int .i64 c, .int .i64 q, .slice lo n cl], .int .i64 o] u (AnsO u 0 A D M R V y l s SR SV)) := fun u hu => Object_any h u lo cl hcl A0 C0 (hl.below hu)
  have HS : Hid (∀ u, Below w.heap.size w u -> Calls Tryz.prog 13 #[.agg #[.int .i64 k, .int .i64 r, .int .i64 c, .int .i64 q, .slice lo n cl], .int .i64 o] u (AnsLv u 0 (l + s + 1) (lvA o l R SR) (lvA y l V SV))) := fun u hu => Stripes_tr h u lo cl hcl A0 C0 (hl.below hu)
  have HA : Hid (∀ u, Calls Tryz.prog 6 #[] u fun e w' => e = .returned (.bool true) /\ Below u.heap.size u w') := fun u => awake_any u
  have HB : Hid (∀ u, Calls Tryz.prog 7 #[.agg #[.int .i64 k, .int .i64 r, .int .i64 c, .int .i64 q, .slice lo n cl]] u fun e w' => (∃ b, e = .returned (.bool b)) /\ Below u.heap.size u w') := fun u => big_any k r c q lo n cl u
  unfold AnsO at HO
  unfold AnsLv at HS
  rw [lenE_zero, lenE_zero, lenE_zero, De.lenI_zero, De.lenI_zero, De.lenI_zero] at HO
  rw [lenE_zero] at HS
  obtain ⟨N, Q, S, W, hp, hck, hoQ, hyr, hlv⟩ := ob_facts h
  have hnx : xn <= 16 := by
    have := hp.le
    rcases hp with ⟨hm, _, hN, _⟩ | ⟨_, _, _, h0⟩
    · obtain ⟨m1, m2, m3, m4, _⟩ := may_true hm; omega
    · exact absurd h0 (by decide)
  have hrow : Im.Rww k r c q n F o 0 N (Im.rowF Q o.toNat F) := ⟨0, N, Q, S, hck, .inl ⟨rfl, hoQ.1, hoQ.2, rfl, rfl, rfl⟩⟩
  have HRW : Hid (∀ u, Below w.heap.size w u -> Calls Tryz.prog 24 #[.agg #[.int .i64 k, .int .i64 r, .int .i64 c, .int .i64 q, .slice lo n cl], .int .i64 o] u fun e w' => ∃ lo' A' C', e = .returned (.tuple #[.slice lo' N N, .int .i64 0]) /\ Im.Im u.heap.size w' lo' (2 * N) A' C' (Im.rowF Q o.toNat F) /\ Below u.heap.size u w') := fun u hu => Im.Row_any hrow lo cl hcl A0 C0 u (hl.below hu)
  have HMI : Hid (∀ u ro A' C', Rw u ro N A' (gL Q F o.toNat) C' (gF Q F o.toNat) -> Calls Tryz.prog 25 #[.agg #[.int .i64 k, .int .i64 r, .int .i64 c, .int .i64 q], .slice ro N N, .int .i64 y] u (Cn.AnsI u 0 (Cn.dl (fun d => !Cn.hbv (Cn.hP N c (gL Q F o.toNat) (gF Q F o.toNat)) (Cn.hQ N c (gL Q F o.toNat) (gF Q F o.toNat)) y d) N))) := fun u ro A' C' hr => Cn.Missing_any hp u ro N N A' (gL Q F o.toNat) C' (gF Q F o.toNat) hr 0 (erR_ok (fit_row hck (by omega))) y 0 (by unfold erF; rw [if_pos rfl, if_pos hyr]) _ (by rw [if_pos rfl])
  have HSD : Hid (∀ u, Below w.heap.size w u -> ∀ i, i <= l -> Calls Tryz.prog 26 #[.agg #[.int .i64 k, .int .i64 r, .int .i64 c, .int .i64 q, .slice lo n cl], .agg #[.int .i64 (lvA o l R SR i), .int .u8 (if i = 0 then 2 else 1), .int .i64 (lvA y l V SV i)]] u fun e w' => ∃ b : Bool, e = .returned (.bool b) /\ (b = true -> ∃ t, Snd k.toNat r.toNat N c (yy N c (gL Q F (lvA o l R SR i).toNat) (gF Q F (lvA o l R SR i).toNat)) (if i = 0 then 2 else 1) (lvA y l V SV i) t) /\ Below u.heap.size u w') := fun u hu i hi => sound_live hp hck hl hcl hoQ hyr hlv u hu i hi
  have HTD : Hid (∀ u, Below w.heap.size w u -> ∀ i, i <= l -> Calls Tryz.prog 27 #[.agg #[.int .i64 k, .int .i64 r, .int .i64 c, .int .i64 q, .slice lo n cl], .agg #[.int .i64 (lvA o l R SR i), .int .u8 (if i = 0 then 2 else 1), .int .i64 (lvA y l V SV i)]] u fun e w' => e = .returned (.int .i64 (((Cn.dl (tD (yy N c (gL Q F (lvA o l R SR i).toNat) (gF Q F (lvA o l R SR i).toNat)) (if i = 0 then 2 else 1) (lvA y l V SV i)) N).length : Nat) : Int)) /\ Below u.heap.size u w') := fun u hu i hi => told_live hp hck hl hcl hoQ hyr hlv u hu i hi
  have HOB : Hid (Ob k r c q n F o 0 A D M R V y l s SR SV) := h
  have HCK : Hid (Par k r c q N W 0 /\ Im.Ck k r c q n F 0 N Q S) := ⟨hp, hck⟩
  have HLS : Hid (Im.Lst w lo n A0 C0 F) := hl
  have HZR : Hid (RdI w xo xn Z) := hZ
  clear h hl hpar hmade hp hck hrow hZ hlv hyr hoQ
  obtain ⟨w0, hw0⟩ : ∃ w0, w0 = w.alloc (.cells #[.int .i64 k, .int .i64 r, .int .i64 c, .int .i64 q, .slice lo n cl] 26) := ⟨_, rfl⟩
  have b0 : Below w.heap.size w w0 := by rw [hw0]; exact below_alloc _ _
  have HQ : Hid (∀ u, Below w0.heap.size w0 u -> u.cell? ⟨w.heap.size, 0, none⟩ = some (.int .i64 k) /\ u.cell? ⟨w.heap.size, 1, none⟩ = some (.int .i64 r) /\ u.cell? ⟨w.heap.size, 2, none⟩ = some (.int .i64 c) /\ u.cell? ⟨w.heap.size, 3, none⟩ = some (.int .i64 q) /\ u.cell? ⟨w.heap.size, 4, none⟩ = some (.slice lo n cl)) := fun u hu => mea_held hw0 hu
  have HB0 : Hid (Below w.heap.size w w0) := b0
  go_enter Tryz.func5, Tryz.ntmps5
  go_wp2_with fail
  rw [<- hw0]
  clear hw0 b0
  refine (HA.out _).mono ?_
  rintro e wa ⟨rfl, ha⟩
  obtain ⟨s0, s1, s2, s3, s4⟩ := HQ.out wa ha
  go_wp2_with fail
  refine (HB.out _).mono ?_
  rintro e wb ⟨⟨b, rfl⟩, hb⟩
  have hab := below_then ha hb
  clear s0 s1 s2 s3 s4 ha hb
  obtain ⟨s0, s1, s2, s3, s4⟩ := HQ.out wb hab
  cases b
  · go_wp2_with fail
    refine (HO.out _ (below_then HB0.out hab)).mono ?_
    rintro e wc ⟨ao, cp, lo', lc, so, sc, rfl, _, hlv, hst, hc⟩
    have hac := below_then hab hc
    obtain ⟨wd, hwd⟩ : ∃ wd, wd = wc.alloc (.cells #[.int .i64 A, .int .i64 D, .slice ao M cp] 32) := ⟨_, rfl⟩
    have bd : Below wc.heap.size wc wd := by rw [hwd]; exact below_alloc _ _
    have had := below_then hac bd
    have HD : Hid (∀ u, Below wd.heap.size wd u -> u.cell? ⟨wc.heap.size, 0, none⟩ = some (.int .i64 A) /\ u.cell? ⟨wc.heap.size, 1, none⟩ = some (.int .i64 D)) := fun u hu => ⟨blk_held hwd hu 0 rfl, blk_held hwd hu 1 rfl⟩
    have HL1 : Hid (De.OwR wb.heap.size wd lo' l lc R V) := hlv.below bd
    have HS1 : Hid (De.OwR wb.heap.size wd so s sc SR SV) := hst.below bd
    clear s0 s1 s2 s3 s4 hab hc bd hlv hst
    have s0 := fun o => (HQ.out (wc.alloc o) (below_then hac (below_alloc _ o))).1
    have s1 := fun o => (HQ.out (wc.alloc o) (below_then hac (below_alloc _ o))).2.1
    have s2 := fun o => (HQ.out (wc.alloc o) (below_then hac (below_alloc _ o))).2.2.1
    have s3 := fun o => (HQ.out (wc.alloc o) (below_then hac (below_alloc _ o))).2.2.2.1
    have s4 := fun o => (HQ.out (wc.alloc o) (below_then hac (below_alloc _ o))).2.2.2.2
    clear hac
    go_wp2_with fail
    rw [<- hwd]
    refine (HS.out _ (below_then HB0.out had)).mono ?_
    rintro e we ⟨vo, vc, rfl, hvv, he⟩
    have hae := below_then had he
    clear s0 s1 s2 s3 s4
    obtain ⟨s0, s1, s2, s3, s4⟩ := HQ.out we hae
    go_wp2_with fail
    refine (HRW.out _ (below_then HB0.out hae)).mono ?_
    rintro e wf ⟨po, A', C', rfl, hI, hf⟩
    have hrw := rw_of hI
    have haf := below_then hae hf
    clear s0 s1 s2 s3 s4 hI
    obtain ⟨s0, s1, s2, s3, s4⟩ := HQ.out wf haf
    go_wp2_with fail
    refine (HMI.out wf po A' C' hrw).mono ?_
    rintro e wi ⟨mo, mc, rfl, _, hm⟩
    have hai := below_then haf hm
    have hdi := below_then he (below_then hf hm)
    have HBI : Hid (Below w.heap.size w wi) := below_then HB0.out hai
    have HLi : Hid (De.OwR wb.heap.size wi lo' l lc R V) := HL1.out.below hdi
    have HSi : Hid (De.OwR wb.heap.size wi so s sc SR SV) := HS1.out.below hdi
    have HVi : Hid (OwV wd.heap.size wi vo (l + s + 1) vc (lvA o l R SR) (lvA y l V SV)) := hvv.below (below_then hf hm)
    have HDi : Hid (∀ u, Below wi.heap.size wi u -> u.cell? ⟨wc.heap.size, 0, none⟩ = some (.int .i64 A) /\ u.cell? ⟨wc.heap.size, 1, none⟩ = some (.int .i64 D)) := fun u hu => HD.out u (below_then hdi hu)
    have HQi : Hid (∀ u, Below wi.heap.size wi u -> u.cell? ⟨w.heap.size, 0, none⟩ = some (.int .i64 k) /\ u.cell? ⟨w.heap.size, 1, none⟩ = some (.int .i64 r) /\ u.cell? ⟨w.heap.size, 2, none⟩ = some (.int .i64 c) /\ u.cell? ⟨w.heap.size, 3, none⟩ = some (.int .i64 q) /\ u.cell? ⟨w.heap.size, 4, none⟩ = some (.slice lo n cl)) := fun u hu => HQ.out u (below_then hai hu)
    clear s0 s1 s2 s3 s4 hwd had he hae hf haf hm hai hdi hrw hvv HO HS HA HB HQ HD HL1 HS1 HRW HMI
    obtain ⟨gs, hgs⟩ : ∃ gs, gs = Cn.dl (fun d => !Cn.hbv (Cn.hP N c (gL Q F o.toNat) (gF Q F o.toNat)) (Cn.hQ N c (gL Q F o.toNat) (gF Q F o.toNat)) y d) N := ⟨_, rfl⟩
    rw [<- hgs]
    by_cases hg0 : gs.length = 0
    · have HALL : Hid (∀ i, i < N -> Cn.hbv (Cn.hP N c (gL Q F o.toNat) (gF Q F o.toNat)) (Cn.hQ N c (gL Q F o.toNat) (gF Q F o.toNat)) y i = true) := fun i hi => by
        rw [hgs] at hg0
        have := Cn.dl_nil hg0 hi
        simpa using this
      rw [hg0]
      clear hg0 hgs
      obtain ⟨gv, hgv, _, _, hcv⟩ := HVi.out.at_ (by omega)
      subst hgv
      have HCV : Hid (∀ u, Below wi.heap.size wi u -> ∀ i, i < l + s + 1 -> u.cell? ⟨gv, i * 3, none⟩ = some (.int .i64 (lvA o l R SR i)) /\ u.cell? ⟨gv, i * 3 + 1, none⟩ = some (.int .u8 (if i = 0 then 2 else 1)) /\ u.cell? ⟨gv, i * 3 + 2, none⟩ = some (.int .i64 (lvA y l V SV i))) := fun u hu i h => ⟨held (hcv i h).1 hu, held (hcv i h).2.1 hu, held (hcv i h).2.2 hu⟩
      obtain ⟨T, hT⟩ : ∃ T, T = l + s + 1 := ⟨_, rfl⟩
      have hTl : l < T := by omega
      rw [<- hT] at HCV HVi ⊢
      clear hcv hT
      go_wp2_with fail
      go_loopw [19] (fun x wr => ∃ i : Nat, i <= l + 1 /\ x = .int .i64 (i : Int) /\ Hid (Below wi.heap.size wi wr) /\ Hid (∀ j, j < i -> Sg k.toNat r.toNat N Q c F (lvA o l R SR j).toNat (if j = 0 then 2 else 1) (lvA y l V SV j))) (fun x _ => l + 1 - (intOf x).toNat)
      case atStart => exact ⟨0, Nat.zero_le _, rfl, Below.refl _ _, fun j hj => absurd hj (Nat.not_lt_zero _)⟩
      case round =>
        obtain ⟨i, hi, rfl, hb, hsg⟩ := hrel
        by_cases hlt : i <= l
        · have i1 : (0 : Int) <= (i : Int) := by omega
          have i2 : (i : Int) < (T : Int) := by omega
          have i3 : (i : Int) <= (l : Int) := by omega
          have HCC0 := fun u hu => HCV.out u hu i (by omega)
          have HSDi0 := fun u hu => HSD.out u hu i hlt
          have HTDi0 := fun u hu => HTD.out u hu i hlt
          obtain ⟨p, hp⟩ : ∃ p, p = lvA o l R SR i := ⟨_, rfl⟩
          obtain ⟨t, ht⟩ : ∃ t, t = lvA y l V SV i := ⟨_, rfl⟩
          obtain ⟨kk, hkk⟩ : ∃ kk : Int, kk = (if i = 0 then 2 else 1) := ⟨_, rfl⟩
          obtain ⟨tt, htt⟩ : ∃ tt, tt = (Cn.dl (tD (yy N c (gL Q F (lvA o l R SR i).toNat) (gF Q F (lvA o l R SR i).toNat)) (if i = 0 then 2 else 1) (lvA y l V SV i)) N).length := ⟨_, rfl⟩
          have HTT2 : Hid (tt = (Cn.dl (tD (yy N c (gL Q F (lvA o l R SR i).toNat) (gF Q F (lvA o l R SR i).toNat)) (if i = 0 then 2 else 1) (lvA y l V SV i)) N).length) := htt
          have HCC : Hid (∀ u, Below wi.heap.size wi u -> u.cell? ⟨gv, i * 3, none⟩ = some (.int .i64 p) /\ u.cell? ⟨gv, i * 3 + 1, none⟩ = some (.int .u8 kk) /\ u.cell? ⟨gv, i * 3 + 2, none⟩ = some (.int .i64 t)) := by rw [hp, ht, hkk]; exact HCC0
          have HSDi : Hid (∀ u, Below wi.heap.size wi u -> Calls Tryz.prog 26 #[.agg #[.int .i64 k, .int .i64 r, .int .i64 c, .int .i64 q, .slice lo n cl], .agg #[.int .i64 p, .int .u8 kk, .int .i64 t]] u fun e w' => ∃ b : Bool, e = .returned (.bool b) /\ (b = true -> ∃ t, Snd k.toNat r.toNat N c (yy N c (gL Q F (lvA o l R SR i).toNat) (gF Q F (lvA o l R SR i).toNat)) (if i = 0 then 2 else 1) (lvA y l V SV i) t) /\ Below u.heap.size u w') := fun u hu => by rw [hp, ht, hkk]; exact HSDi0 u (below_then HBI.out hu)
          have HTDi : Hid (∀ u, Below wi.heap.size wi u -> Calls Tryz.prog 27 #[.agg #[.int .i64 k, .int .i64 r, .int .i64 c, .int .i64 q, .slice lo n cl], .agg #[.int .i64 p, .int .u8 kk, .int .i64 t]] u fun e w' => e = .returned (.int .i64 ((tt : Nat) : Int)) /\ Below u.heap.size u w') := fun u hu => by rw [hp, ht, hkk, htt]; exact HTDi0 u (below_then HBI.out hu)
          have HBr : Hid (Below wi.heap.size wi wr) := hb.out
          clear HCC0 HSDi0 HTDi0 hp ht hkk htt hb
          go_wp2_with fail
          have HSX : Hid (∀ v, Below wr.heap.size wr v -> (v.cell? ⟨w.heap.size, 0, none⟩ = some (.int .i64 k) /\ v.cell? ⟨w.heap.size, 1, none⟩ = some (.int .i64 r) /\ v.cell? ⟨w.heap.size, 2, none⟩ = some (.int .i64 c) /\ v.cell? ⟨w.heap.size, 3, none⟩ = some (.int .i64 q) /\ v.cell? ⟨w.heap.size, 4, none⟩ = some (.slice lo n cl) /\ v.cell? ⟨gv, i * 3, none⟩ = some (.int .i64 p) /\ v.cell? ⟨gv, i * 3 + 1, none⟩ = some (.int .u8 kk) /\ v.cell? ⟨gv, i * 3 + 2, none⟩ = some (.int .i64 t))) := fun v hv => by
            obtain ⟨a0, a1, a2, a3, a4⟩ := HQi.out v (below_then HBr.out hv)
            obtain ⟨a5, a6, a7⟩ := HCC.out v (below_then HBr.out hv)
            exact ⟨a0, a1, a2, a3, a4, a5, a6, a7⟩
          refine wp_region_noPanic (live_reg wr k r c q lo n cl w.heap.size gv T vc i p kk t tt (fun b => b = true -> ∃ t, Snd k.toNat r.toNat N c (yy N c (gL Q F (lvA o l R SR i).toNat) (gF Q F (lvA o l R SR i).toNat)) (if i = 0 then 2 else 1) (lvA y l V SV i) t) i1 i2 _ _ _ _ _ _ _ _ _ _ _ _ _ _ _ _ _ _ _ _ _ _ _ _ _ _ _ _ _ _ _ _ _ _ _ _ _ _ _ _ _ _ _ _ _ _ _ _ _ _ _ _ _ _ _ _ _ _ _ _ _ _ _ _ _ _ _ _ _ _ _ _ _ _ _ _ _ _ _ _ _ _ _ _ _ _ _ _ _ _ _ _ _ _ _ _ _ _ _ _ _ _ _ _ _ _ _ _ _ _ _ _ _ _ _ _ _ _ _ _ _ _ _ _ _ _ _ _ _ _ _ _ _ _ _ _ _ _ _ _ _ _ _ _ _ _ _ _ _ _ _ _ _ _ _ _ _ _ _ _ _ _ _ _ _ _ _ _ _ _ _ _ _ _ _ _ _ _ _ _ _ _ _ _ _ _ _ _ _ _ _ _ _ _ _ _ _ _ _ _ _ _ _ _ _ _ _ _ _ _ _ _ _ _ _ HSX (fun u hu => HSDi.out u (below_then HBr.out hu)) (fun u hu => HTDi.out u (below_then HBr.out hu)) _ (fun _ _ _ _ _ h => h) (fun v' cond y106 y107 y108 y109 y110 y111 y112 y113 y114 y115 y116 y117 y118 y119 y120 y121 y122 y123 hb3 hcd => NoPanic.normal ?_))
          have HBq : Hid (Below wi.heap.size wi v') := below_then HBr.out hb3
          cases cond
          · have HSG : Hid (Sg k.toNat r.toNat N Q c F (lvA o l R SR i).toNat (if i = 0 then 2 else 1) (lvA y l V SV i)) := by
              rcases hcd with e | ⟨h1, h2⟩
              · cases e
              · obtain ⟨t, ht⟩ := h1 rfl
                exact ⟨t, ht, by rw [<- HTT2.out]; omega⟩
            clear hcd hb3
            go_wp2_with fail
            go_roundw
            case rel => exact ⟨i + 1, by omega, by go_num, HBq, fun j hj => by
              rcases Nat.lt_succ_iff_lt_or_eq.1 hj with g | g
              · exact hsg.out j g
              · subst g; exact HSG.out⟩
            case measure => simp [intOf]; omega
          · clear hcd hb3
            go_wp2_with fail
            go_ret
            exact ⟨rfl, below_then HBI.out HBq.out⟩
        · have i3 : ¬ (i : Int) <= (l : Int) := by omega
          have HBr : Hid (Below wi.heap.size wi wr) := hb.out
          have HSGs : Hid (∀ j, j <= l -> Sg k.toNat r.toNat N Q c F (lvA o l R SR j).toNat (if j = 0 then 2 else 1) (lvA y l V SV j)) := fun j hj => hsg.out j (by omega)
          obtain ⟨s0, s1, s2, s3, s4⟩ := HQi.out wr hb.out
          clear hb hsg HSD HTD HCV HVi
          by_cases i2 : (i : Int) < (T : Int)
          all_goals
            go_wp2_with fail
            obtain ⟨wz, hwz⟩ : ∃ wz, wz = wr.alloc (.cells #[.int .i64 k, .int .i64 r, .int .i64 c, .int .i64 q, .slice lo n cl] 26) := ⟨_, rfl⟩
            obtain ⟨g0, hg0⟩ : ∃ g0, g0 = wr.heap.size := ⟨_, rfl⟩
            have HBz : Hid (Below wi.heap.size wi wz) := below_then HBr.out (by rw [hwz]; exact below_alloc _ _)
            have HBK : Hid (Im.Blk wz g0 26 [.int .i64 k, .int .i64 r, .int .i64 c, .int .i64 q, .slice lo n cl]) := by rw [hwz, hg0]; exact heap_alloc_new wr _
            have HOW : Hid (∀ u, Im.Only (fun b => b = g0) wz u -> Below wi.heap.size wi u) := fun u hu => HBz.out.trans (hu.below (fun i e => by rw [e, hg0]; exact HBr.out.size) HBz.out.size)
            rw [<- hwz, <- hg0]
            clear hwz hg0 HBr HBz s0 s1 s2 s3 s4 i2 i3 hlt hi
            go_loopw [21] (fun x wr => ∃ j : Nat, j <= xn /\ x = .int .i64 (j : Int) /\ Hid (∃ lo2 cl2 A2 C2, n <= cl2 /\ Im.Blk wr g0 26 [.int .i64 k, .int .i64 r, .int .i64 c, .int .i64 q, .slice lo2 n cl2] /\ ∀ u, Im.Only (fun b => b = g0) wr u -> Im.Lst u lo2 n A2 C2 (wF Q Z F j)) /\ Hid (Im.Only (fun b => b = g0) wz wr)) (fun x _ => xn - (intOf x).toNat)
            case atStart => exact ⟨0, Nat.zero_le _, rfl, ⟨lo, cl, A0, C0, hcl, HBK.out, fun u hu => HLS.out.below (below_then HBI.out (HOW.out u hu))⟩, Im.Only.refl _ _⟩
            case round =>
              obtain ⟨j, hj, rfl, hin, ho⟩ := hrel
              have HIN := hin
              have HON : Hid (Im.Only (fun b => b = g0) wz wr) := ho.out
              clear hin ho
              by_cases hlt : j < xn
              · obtain ⟨xb, xf, rfl, hxc⟩ := HZR.out (by omega)
                obtain ⟨lo2, cl2, A2, C2, hcl2, hbk, hls⟩ := HIN.out
                obtain ⟨x, k', r', c', q', n', F', hwip⟩ := Im.wip_ex k r c q n (wF Q Z F j) (Z j)
                obtain ⟨z, hz⟩ : ∃ z, z = Z j := ⟨_, rfl⟩
                have HZJ : Hid (z = Z j) := hz
                have HTW := wip_two HCK.out.2 hwip
                rw [<- hz] at hwip HTW
                have HTW2 : Hid ((x = 0 /\ k' = k /\ r' = r /\ c' = c /\ q' = q /\ n' = n /\ F' = Im.wpF Q z.toNat (wF Q Z F j)) \/ ¬ x = 0) := HTW
                have HP1 : Hid (∀ v, Below wr.heap.size wr v -> Calls Tryz.prog 28 #[.agg #[.int .i64 k, .int .i64 r, .int .i64 c, .int .i64 q, .slice lo2 n cl2], .int .i64 z] v fun e w' => ∃ lo' A' C', e = .returned (.tuple #[.agg #[.int .i64 k', .int .i64 r', .int .i64 c', .int .i64 q', .slice lo' n' n'], .int .i64 x]) /\ Im.Im v.heap.size w' lo' n' A' C' F' /\ Below v.heap.size v w') := fun v hv => Im.Wiped_any hwip lo2 cl2 A2 C2 v (hls v (.of_below hv))
                have HSX : Hid (∀ v, Below wr.heap.size wr v -> (v.cell? ⟨g0, 0, none⟩ = some (.int .i64 k) /\ v.cell? ⟨g0, 1, none⟩ = some (.int .i64 r) /\ v.cell? ⟨g0, 2, none⟩ = some (.int .i64 c) /\ v.cell? ⟨g0, 3, none⟩ = some (.int .i64 q) /\ v.cell? ⟨g0, 4, none⟩ = some (.slice lo2 n cl2) /\ v.cell? ⟨xb, xf + j, none⟩ = some (.int .i64 z))) := fun v hv => ⟨(hbk.below hv).cell rfl, (hbk.below hv).cell rfl, (hbk.below hv).cell rfl, (hbk.below hv).cell rfl, (hbk.below hv).cell rfl, by rw [hz]; exact held (hxc j hlt) (below_then HBI.out (below_then (HOW.out wr HON.out) hv))⟩
                have HBKj : Hid (Im.Blk wr g0 26 [.int .i64 k, .int .i64 r, .int .i64 c, .int .i64 q, .slice lo2 n cl2]) := hbk
                have i1 : (0 : Int) <= (j : Int) := by omega
                have i2 : (j : Int) < (xn : Int) := by omega
                clear HTW hwip hz hbk hls hxc hcl2 HIN
                go_wp2_with fail
                refine wp_region_noPanic (wip_reg wr k r c q lo2 n cl2 g0 xb xf xn xc j z x k' r' c' q' n' F' i1 i2 _ _ _ _ _ _ _ _ _ _ _ _ _ _ _ _ _ _ _ _ _ _ _ _ _ _ _ _ _ _ _ _ _ _ _ _ _ _ _ _ _ _ _ _ _ _ _ _ _ _ _ _ _ _ _ _ _ _ _ _ _ _ _ _ _ _ _ _ _ _ _ _ _ _ _ _ _ _ _ _ _ _ _ _ _ _ _ _ _ _ _ _ _ _ _ _ _ _ _ _ _ _ _ _ _ _ _ _ _ _ _ _ _ _ _ _ _ _ _ _ _ _ _ _ _ _ _ _ _ _ _ _ _ _ _ _ _ _ _ _ _ _ _ _ _ _ _ _ _ _ _ _ _ _ _ _ _ _ _ _ _ _ _ _ _ _ _ _ _ _ _ _ _ _ _ _ _ _ _ _ _ _ _ _ _ _ _ _ _ _ _ _ _ _ _ _ _ _ _ _ _ _ _ _ _ _ _ _ _ _ _ _ _ _ _ HSX HP1 _ (fun v g lo3 A3 C3 y132 y133 y134 y135 y136 y137 y138 y139 y140 hbv hat him => NoPanic.normal ?_))
                have HBV : Hid (Below wr.heap.size wr v) := hbv
                have HIM : Hid (Im.Im wr.heap.size v lo3 n' A3 C3 F') := him
                have HAT : Hid (At wr v g #[.int .i64 k', .int .i64 r', .int .i64 c', .int .i64 q', .slice lo3 n' n'] 26) := hat
                clear hbv him hat HSX HP1
                rcases HTW2.out with ⟨h1, h2, h3, h4, h5, h6, h7⟩ | h1
                · subst h1 h2 h3 h4 h5 h6
                  have HF : Hid (F' = Im.wpF Q z.toNat (wF Q Z F j)) := h7
                  have a0 := HAT.out.cell (i := 0) rfl
                  have a1 := HAT.out.cell (i := 1) rfl
                  have a2 := HAT.out.cell (i := 2) rfl
                  have a3 := HAT.out.cell (i := 3) rfl
                  have a4 := HAT.out.cell (i := 4) rfl
                  have HBv : Hid (Im.Blk v g0 26 [.int .i64 k', .int .i64 r', .int .i64 c', .int .i64 q', .slice lo2 n' cl2]) := HBKj.out.below HBV.out
                  have b0 := HBv.out.cell (i := 0) rfl
                  have b1 := HBv.out.cell (i := 1) rfl
                  have b2 := HBv.out.cell (i := 2) rfl
                  have b3 := HBv.out.cell (i := 3) rfl
                  have b4 := HBv.out.cell (i := 4) rfl
                  have bf := HBv.out.free
                  clear h7 HTW2
                  go_wp2_with fail
                  go_roundw
                  case rel => exact ⟨j + 1, by omega, by go_num, ⟨lo3, n', A3, C3, Nat.le_refl _, ((((HBv.out.set 0 _).set 1 _).set 2 _).set 3 _).set 4 _, fun u hu => by
                    have h := (HIM.out.only ((Im.only5 v g0 _ _ _ _ _).trans hu) (fun b hb e => by have e2 : b = g0 := e; have := HBKj.out.lt; omega)).lst
                    rw [HF.out, HZJ.out] at h
                    exact h⟩, (HON.out.then HBV.out).trans (Im.only5 v g0 _ _ _ _ _)⟩
                  case measure => simp [intOf]; omega
                · clear HTW2
                  go_wp2_with fail
                  go_ret
                  exact ⟨rfl, below_then HBI.out (HOW.out v (HON.out.then HBV.out))⟩
              · have i2 : ¬ (j : Int) < (xn : Int) := by omega
                obtain rfl : j = xn := by omega
                obtain ⟨lo2, cl2, A2, C2, hcl2, hbk, hls⟩ := HIN.out
                obtain ⟨R2, V2, SR2, SV2, hob2, hsl, hss⟩ := ob_wiped HOB.out (K := k.toNat) (R := r.toNat) (by obtain ⟨⟨h0, _⟩, _⟩ := HCK.out.2.ok rfl; have := may_true h0; omega) (by omega) (ck_wF Z HCK.out.2 j) (wi_wF N Q Z F j) (by have := hit_few Z N j; omega) HALL.out (by have h := HSGs.out 0 (Nat.zero_le _); exact h) (fun i hi => by
                  have h := HSGs.out (i + 1) (by omega)
                  rw [lv_succ hi, lv_succ hi, if_neg (Nat.succ_ne_zero i)] at h
                  exact h)
                have HO2 : Hid (∀ u, Below wr.heap.size wr u -> Calls Tryz.prog 9 #[.agg #[.int .i64 k, .int .i64 r, .int .i64 c, .int .i64 q, .slice lo2 n cl2], .int .i64 o] u (AnsO u 0 A D M R2 V2 y l s SR2 SV2)) := fun u hu => Object_any hob2 u lo2 cl2 hcl2 A2 C2 (hls u (.of_below hu))
                unfold AnsO at HO2
                rw [lenE_zero, lenE_zero, lenE_zero, De.lenI_zero, De.lenI_zero, De.lenI_zero] at HO2
                have HSL : Hid (∀ i, i < l -> R2 i = R i /\ V2 i = V i) := hsl
                have HSS : Hid (∀ j, j < s -> SR2 j = SR j /\ SV2 j = SV j) := hss
                have HBq : Hid (Below wi.heap.size wi wr) := HOW.out wr HON.out
                have b0 := hbk.cell (i := 0) rfl
                have b1 := hbk.cell (i := 1) rfl
                have b2 := hbk.cell (i := 2) rfl
                have b3 := hbk.cell (i := 3) rfl
                have b4 := hbk.cell (i := 4) rfl
                clear HIN hbk hls hob2 hsl hss HOW HON HBK HSGs HCK HOB HALL HLS HZR
                go_wp2_with fail
                refine (HO2.out _ (Below.refl _ _)).mono ?_
                rintro e wx ⟨ao2, cp2, lo3, lc3, so3, sc3, rfl, _, hlv3, hst3, hc3⟩
                obtain ⟨wy, hwy⟩ : ∃ wy, wy = wx.alloc (.cells #[.int .i64 A, .int .i64 D, .slice ao2 M cp2] 32) := ⟨_, rfl⟩
                have bd2 : Below wx.heap.size wx wy := by rw [hwy]; exact below_alloc _ _
                have HBy : Hid (Below wi.heap.size wi wy) := below_then HBq.out (below_then hc3 bd2)
                have HD2 : Hid (∀ u, Below wy.heap.size wy u -> u.cell? ⟨wx.heap.size, 0, none⟩ = some (.int .i64 A) /\ u.cell? ⟨wx.heap.size, 1, none⟩ = some (.int .i64 D)) := fun u hu => ⟨blk_held hwy hu 0 rfl, blk_held hwy hu 1 rfl⟩
                have HL3 : Hid (De.OwR wr.heap.size wy lo3 l lc3 R2 V2) := hlv3.below bd2
                have HS3 : Hid (De.OwR wr.heap.size wy so3 s sc3 SR2 SV2) := hst3.below bd2
                have HLy : Hid (De.OwR wb.heap.size wy lo' l lc R V) := HLi.out.below HBy.out
                have HSy : Hid (De.OwR wb.heap.size wy so s sc SR SV) := HSi.out.below HBy.out
                have g1 := fun o => (HDi.out (wx.alloc o) (below_then HBq.out (below_then hc3 (below_alloc _ o)))).1
                have g2 := fun o => (HDi.out (wx.alloc o) (below_then HBq.out (below_then hc3 (below_alloc _ o)))).2
                clear b0 b1 b2 b3 b4 hlv3 hst3 hc3 bd2 HO2 HLi HSi
                go_wp2_with fail
                rw [<- hwy]
                clear hwy g1 g2
                go_loopw [28] (fun x wr => ∃ a : Nat, a <= l /\ x = .int .i64 (a : Int) /\ Hid (Below wy.heap.size wy wr)) (fun x _ => l - (intOf x).toNat)
                case atStart => exact ⟨0, Nat.zero_le _, rfl, Below.refl _ _⟩
                case round =>
                  obtain ⟨a, hi, rfl, hb⟩ := hrel
                  by_cases hlt : a < l
                  · obtain ⟨ga, rfl, hga1, hga2⟩ := HL3.out.at_ (by omega)
                    obtain ⟨gb, rfl, hgb1, hgb2⟩ := HLy.out.at_ (by omega)
                    obtain ⟨l0, l1⟩ := (HL3.out.below hb.out).cell hlt
                    obtain ⟨l2, l3⟩ := (HLy.out.below hb.out).cell hlt
                    rw [(HSL.out a hlt).1] at l0
                    rw [(HSL.out a hlt).2] at l1
                    obtain ⟨p, hp⟩ : ∃ p, p = R a := ⟨_, rfl⟩
                    obtain ⟨t, ht⟩ : ∃ t, t = V a := ⟨_, rfl⟩
                    rw [<- hp] at l0 l2
                    rw [<- ht] at l1 l3
                    have i1 : (0 : Int) <= (a : Int) := by omega
                    have i2 : (a : Int) < (l : Int) := by omega
                    have HBr : Hid (Below wy.heap.size wy wr) := hb.out
                    clear hp ht hb
                    go_wp2_with fail
                    go_big_quiet (fail)
                    have HBq2 : Hid (Below wy.heap.size wy (wr.drewN nq)) := below_then HBr.out (below_drewN _ _ _)
                    clear l0 l1 l2 l3
                    go_wp2_with fail
                    go_roundw
                    case rel => exact ⟨a + 1, by omega, by go_num, HBq2⟩
                    case measure => simp [intOf]; omega
                  · have i2 : ¬ (a : Int) < (l : Int) := by omega
                    have HB3 : Hid (Below wy.heap.size wy wr) := hb.out
                    clear hb hlt hi
                    go_wp2_with fail
                    clear i2
                    go_loopw [29] (fun x wr => ∃ a : Nat, a <= s /\ x = .int .i64 (a : Int) /\ Hid (Below wy.heap.size wy wr)) (fun x _ => s - (intOf x).toNat)
                    case atStart => exact ⟨0, Nat.zero_le _, rfl, HB3.out⟩
                    case round =>
                      obtain ⟨a, hi, rfl, hb⟩ := hrel
                      by_cases hlt : a < s
                      · obtain ⟨ga, rfl, hga1, hga2⟩ := HS3.out.at_ (by omega)
                        obtain ⟨gb, rfl, hgb1, hgb2⟩ := HSy.out.at_ (by omega)
                        obtain ⟨l0, l1⟩ := (HS3.out.below hb.out).cell hlt
                        obtain ⟨l2, l3⟩ := (HSy.out.below hb.out).cell hlt
                        rw [(HSS.out a hlt).1] at l0
                        rw [(HSS.out a hlt).2] at l1
                        obtain ⟨p, hp⟩ : ∃ p, p = SR a := ⟨_, rfl⟩
                        obtain ⟨t, ht⟩ : ∃ t, t = SV a := ⟨_, rfl⟩
                        rw [<- hp] at l0 l2
                        rw [<- ht] at l1 l3
                        have i1 : (0 : Int) <= (a : Int) := by omega
                        have i2 : (a : Int) < (s : Int) := by omega
                        have HBr : Hid (Below wy.heap.size wy wr) := hb.out
                        clear hp ht hb
                        go_wp2_with fail
                        go_big_quiet (fail)
                        have HBq2 : Hid (Below wy.heap.size wy (wr.drewN nq)) := below_then HBr.out (below_drewN _ _ _)
                        clear l0 l1 l2 l3
                        go_wp2_with fail
                        go_roundw
                        case rel => exact ⟨a + 1, by omega, by go_num, HBq2⟩
                        case measure => simp [intOf]; omega
                      · have i2 : ¬ (a : Int) < (s : Int) := by omega
                        have HB3 : Hid (Below wy.heap.size wy wr) := hb.out
                        clear hb hlt hi
                        go_wp2_with fail
                        go_ret
                        exact ⟨rfl, below_then HBI.out (below_then HBy.out HB3.out)⟩
    · have hg1 : (0 : Int) < (gs.length : Int) := by omega
      clear hgs hg0
      go_wp2_with fail
      go_ret
      exact ⟨rfl, HBI.out⟩
  · go_wp2_with fail
    go_ret
    exact ⟨rfl, below_then HB0.out hab⟩
end Go.Proofs.YtlmpcpfabeakjaaGreat
namespace Go.Proofs.YtlmpcpfabeakjaaGreat.Im
open Go.RowKit Go.ChangeShapes Go.WideShapes Go.Deep Go.Joins

section
variable {H : Type} {enc : TypeId × Value -> H} {w : World} {held : Bool}
theorem u8_of {z : Int} (h : (Lit.int .u8 z).wf = true) : ((UInt8.ofNat z.toNat).toNat : Int) = z := by
  have b := bounds_u8 h
  rw [UInt8.toNat_ofNat']
  omega
theorem open_bytes {fuel : Nat} {v : Value} {x : DataW H × List MemPlace} (h : DataW.trod enc Tryz.prog w 0 (fun _ => true) held fuel 70 [v] = some x) :
    ∃ ao cp c, v = .slice ao (List.length c) cp /\ RdB w ao c /\ (ao = none -> c = [] /\ cp = 0) /\ c.length <= 9223372036854775807 := by
  rcases open_ints Tryz.underlying70 Tryz.underlying5 (by kernel_rfl) h with ⟨hcs, _⟩ | ⟨a, l, cp, zs, hcs, _, hl, hm, hz, _, hcell, hwz⟩
  · simp at hcs
    exact ⟨none, 0, [], hcs, rdb_nil _ _, fun _ => ⟨rfl, rfl⟩, by decide⟩
  · simp at hcs
    simp only [if_true] at hz
    have hlen : ((zs.take l).map fun z => UInt8.ofNat z.toNat).length = l := by rw [List.length_map, List.length_take]; omega
    refine ⟨some a, cp, (zs.take l).map fun z => UInt8.ofNat z.toNat, by rw [hlen]; exact hcs, fun hne => ?_, (fun e => by cases e), by rw [hlen]; unfold maxLen at hm; omega⟩
    have hl0 : 0 < l := by rw [<- hlen]; exact List.length_pos_iff.2 hne
    have h0 := hcell 0 (by omega)
    obtain ⟨b, off, spot⟩ := a
    have hspot : spot = none := by simpa [Addr.add] using World.cell?_spot h0
    subst hspot
    refine ⟨b, off, rfl, fun j hj => ?_⟩
    rw [hlen] at hj
    have hj2 : j < zs.length := by omega
    have hc := hcell j hj2
    rw [add_plain] at hc
    rw [hc, List.getElem_map, List.getElem_take]
    rw [show zs.getD j 0 = zs[j] by simp [List.getD, hj2], u8_of (hwz _ (List.getElem_mem hj2))]
def IsLst (w : World) (lo : Option Addr) (n cl : Nat) (A : Nat -> Option Addr) (C : Nat -> Nat) (F : Nat -> List UInt8) : Prop :=
  Lst w lo n A C F /\ n <= cl /\ cl <= 9223372036854775807 /\ (lo = none -> n = 0) /\ ∀ i, i < n -> (F i).length <= 9223372036854775807
theorem open_lst {fuel : Nat} {v : Value} {x : DataW H × List MemPlace} (h : DataW.trod enc Tryz.prog w 0 (fun _ => true) held fuel 24 [v] = some x) :
    ∃ lo n cl A C F, v = .slice lo n cl /\ IsLst w lo n cl A C F /\ (x.1 = .nil \/ ∃ e s, x.1 = .slice e s /\ e.length + s.length = cl) := by
  rcases open_slice1 Tryz.underlying24 (by kernel_rfl) h with ⟨hcs, hx⟩ | ⟨a, len, cap, m, n, V, D, Pl, hcs, _, hl, hm, hmm, hx, hc⟩
  · simp at hcs
    exact ⟨none, 0, 0, fun _ => none, fun _ => 0, fun _ => [], hcs, ⟨⟨fun h => absurd h (Nat.lt_irrefl 0), fun i hi => absurd hi (Nat.not_lt_zero i), fun i hi => absurd hi (Nat.not_lt_zero i)⟩, Nat.le_refl _, by decide, fun _ => rfl, fun i hi => absurd hi (Nat.not_lt_zero i)⟩, .inl (by rw [hx])⟩
  · simp at hcs
    simp only [if_true] at hmm
    subst hmm
    have each : ∀ i, i < m -> ∃ y : Option Addr × Nat × List UInt8, V i = .slice y.1 y.2.2.length y.2.1 /\ RdB w y.1 y.2.2 /\ (y.1 = none -> y.2.2 = [] /\ y.2.1 = 0) /\ y.2.2.length <= 9223372036854775807 := by
      intro i hi
      obtain ⟨ao, cp, c, h1, h2, h3, h4⟩ := open_bytes (hc i hi).2
      exact ⟨(ao, cp, c), h1, h2, h3, h4⟩
    obtain ⟨y, hy⟩ := choose_lt each
    refine ⟨some a, len, m, fun i => (y i).1, fun i => (y i).2.1, fun i => (y i).2.2, hcs, ⟨⟨fun h0 => ?_, fun i hi => (hy i (by omega)).2.1, fun i hi => (hy i (by omega)).2.2.1⟩, hl, by unfold maxLen at hm; omega, (fun e => by cases e), fun i hi => (hy i (by omega)).2.2.2⟩, .inr ⟨_, _, by rw [hx], by simp; omega⟩⟩
    have k0 := (hc 0 (by omega)).1
    obtain ⟨b, off, spot⟩ := a
    have hspot : spot = none := by simpa [Addr.add] using World.cell?_spot k0
    subst hspot
    refine ⟨b, off, rfl, fun i hi => ?_⟩
    have := (hc i (by omega)).1
    rw [add_plain] at this
    rw [this, (hy i (by omega)).1]
theorem array5 {α : Type} {cs : Array α} (h : cs.size = 5) : ∃ c0 c1 c2 c3 c4, cs = #[c0, c1, c2, c3, c4] := by
  obtain ⟨l⟩ := cs
  match l, h with
  | [c0, c1, c2, c3, c4], _ => exact ⟨c0, c1, c2, c3, c4, rfl⟩
theorem cells23 : Tryz.prog.cellsOf 23 = 4 := by kernel_rfl
theorem cells24 : Tryz.prog.cellsOf 24 = 1 := by kernel_rfl
theorem cells26 : Tryz.prog.cellsOf 26 = 5 := by kernel_rfl
theorem cells3 : Tryz.prog.cellsOf 3 = 1 := by kernel_rfl
set_option maxRecDepth 100000 in
theorem open_img {r : Reach} {b0 : Nat} {v : Value} {d : DataW H} {p : List MemPlace} (hv : Value.okWide Tryz.prog w r b0 26 v) (h : DataW.Trod enc Tryz.prog w 0 (fun _ => true) held 26 v d p) :
    ∃ k ro c q lo n cl A C F, v = .agg #[.int .i64 k, .int .i64 ro, .int .i64 c, .int .i64 q, .slice lo n cl] /\ IsLst w lo n cl A C F /\ ∃ y z, d = .agg [y, z] /\ (z = .nil \/ ∃ e s, z = .slice e s /\ e.length + s.length = cl) := by
  obtain ⟨cs, rfl, hsz⟩ := okWide_struct Tryz.underlying26 hv
  obtain ⟨c0, c1, c2, c3, c4, rfl⟩ := array5 (hsz.trans cells26)
  obtain ⟨fuel, hf⟩ := h
  obtain ⟨y0, y1, n, hx, _, h0, h1⟩ := trod_struct2 Tryz.underlying26 hf
  simp only [Prod.mk.injEq] at hx
  simp [Value.cells, cells23, cells24] at h0 h1
  obtain ⟨z0, z1, z2, z3, m, _, _, t0, t1, t2, t3⟩ := trod_struct4 Tryz.underlying23 h0
  simp [cells3] at t0 t1 t2 t3
  obtain ⟨a0, e0, _, _⟩ := DataW.trod_int Tryz.underlying3 t0
  obtain ⟨a1, e1, _, _⟩ := DataW.trod_int Tryz.underlying3 t1
  obtain ⟨a2, e2, _, _⟩ := DataW.trod_int Tryz.underlying3 t2
  obtain ⟨a3, e3, _, _⟩ := DataW.trod_int Tryz.underlying3 t3
  obtain ⟨lo, nn, cl, A, C, F, e4, hl, hd⟩ := open_lst h1
  simp at e0 e1 e2 e3
  subst e0 e1 e2 e3 e4
  exact ⟨a0, a1, a2, a3, lo, nn, cl, A, C, F, rfl, hl, y0.1, y1.1, hx.1, hd⟩
end
end Go.Proofs.YtlmpcpfabeakjaaGreat.Im
namespace Go.Proofs.YtlmpcpfabeakjaaGreat
open Go.RowKit Go.ChangeShapes Go.WideShapes Go.Deep Go.Joins

section
variable {H : Type} {enc : TypeId × Value -> H} {w : World} {held : Bool}
theorem open_drives {fuel : Nat} {v : Value} {x : DataW H × List MemPlace} (h : DataW.trod enc Tryz.prog w 0 (fun _ => true) held fuel 40 [v] = some x) :
    ∃ ao n cp R, v = .slice ao n cp /\ RdI w ao n R := by
  rcases open_ints Tryz.underlying40 Tryz.underlying3 (by kernel_rfl) h with ⟨hcs, _⟩ | ⟨a, l, cp, zs, hcs, _, hl, hm, hz, _, hcell, hwz⟩
  · simp at hcs
    exact ⟨none, 0, 0, fun _ => 0, hcs, fun h => absurd h (Nat.lt_irrefl 0)⟩
  · simp at hcs
    simp only [if_true] at hz
    refine ⟨some a, l, cp, fun j => zs.getD j 0, hcs, fun hn => ?_⟩
    have h0 := hcell 0 (by omega)
    obtain ⟨b, off, spot⟩ := a
    have hspot : spot = none := by simpa [Addr.add] using World.cell?_spot h0
    subst hspot
    refine ⟨b, off, rfl, fun j hj => ?_⟩
    have hj2 : j < zs.length := by omega
    have hc := hcell j hj2
    rw [add_plain] at hc
    exact hc
end
theorem wiped_law {k r c q : Int} {n cl : Nat} {F : Nat -> List UInt8} {lo : Option Addr} {A : Nat -> Option Addr} {C : Nat -> Nat} (w : World) (h : Im.IsLst w lo n cl A C F) (o : Int) (xo : Option Addr) (xn xc : Nat) (Z : Nat -> Int) (hZ : RdI w xo xn Z) :
    Calls Tryz.prog 5 #[.agg #[.int .i64 k, .int .i64 r, .int .i64 c, .int .i64 q, .slice lo n cl], .int .i64 o, .slice xo xn xc] w fun e w' => e = .returned (.bool true) /\ Below w.heap.size w w' := by
  obtain ⟨E, A', D, M, R, V, y, l, s, SR, SV, hO⟩ := ob_ex k r c q n F o
  by_cases hE : E = 0
  · subst hE
    by_cases hx : r < (xn : Int)
    · exact wiped_far hO w lo cl h.2.1 A C h.1 xo xn xc hx
    · exact wiped_good hO w lo cl h.2.1 A C h.1 xo xn xc Z hZ hx
  · exact wiped_bad hO hE w lo cl h.2.1 A C h.1 xo xn xc
end Go.Proofs.YtlmpcpfabeakjaaGreat
