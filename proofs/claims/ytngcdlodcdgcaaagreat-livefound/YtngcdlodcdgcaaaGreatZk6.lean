import Derived.Test.YtngcdlodcdgcaaaGreatZk5
namespace Go.Proofs.YtngcdlodcdgcaaaGreat.Dr
open Go.RowKit Go.Sort
theorem results_four {fn : Func} {t u v x : Tmp} (h : fn.results = #[.tmp t, .tmp u, .tmp v, .tmp x]) (tmps : Array Value) (P : Program) (w : World) :
  (results fn tmps).run P w = .ok (.tuple #[tmps.getD t undef, tmps.getD u undef, tmps.getD v undef, tmps.getD x undef]) w := by
 simp [results, h]
def FndR (X : Int) (s : Nm) (bE : Int) (bL : List Int) (eF : Int -> Int) (lF : Int -> List En) (R B : Int) (I : Bool) (E : Int) : Prop :=
  (E ≠ 0 /\ R = 0 /\ B = 0 /\ I = false) \/ (E = 0 /\ X = 0 /\ mayN s = true /\ bE = 0 /\ B = bL.getD (bkt s).toNat 0 /\ eF B = 0 /\ R = fiR 0 (lF B) s /\ I = asI 0 (lF B) s)
set_option maxHeartbeats 2000000 in
set_option maxRecDepth 100000 in
theorem LFind_any {k r c q : Int} (w : World) (lo : Option Addr) (n cl : Nat) (s : Nm) (X bE : Int) (bL : List Int) (hbL : bE = 0 -> bL.length = 4) (eF : Int -> Int) (lF : Int -> List En)
  (HC : Hid (∀ u, RowKit.Below w.heap.size w u -> Calls Tryz.prog 24 #[.agg #[.int .i64 k, .int .i64 r, .int .i64 c, .int .i64 q, .slice lo n cl]] u fun e w' => e = .returned (.int .i64 X) /\ RowKit.Below u.heap.size u w'))
  (HB : Hid (∀ u, RowKit.Below w.heap.size w u -> Calls Tryz.prog 11 #[.agg #[.int .i64 k, .int .i64 r, .int .i64 c, .int .i64 q, .slice lo n cl]] u (AnsI u bE bL)))
  (HE : Hid (∀ o u, RowKit.Below w.heap.size w u -> Calls Tryz.prog 26 #[.agg #[.int .i64 k, .int .i64 r, .int .i64 c, .int .i64 q, .slice lo n cl], .int .i64 o] u (AnsE u (eF o) (lF o))))
  (HD : Hid (∀ o, eF o = 0 -> mayN s = true -> ∀ u ao ca, Ren u ao (lF o) ca -> Calls Tryz.prog 29 #[.agg #[.int .i64 k, .int .i64 r, .int .i64 c, .int .i64 q], .slice ao (lF o).length ca, .string ⟨s.toArray⟩] u fun e w' => e = .returned (.tuple #[.int .i64 (fiR 0 (lF o) s), .bool (asI 0 (lF o) s), .int .i64 0]) /\ RowKit.Below u.heap.size u w')) :
  Calls Tryz.prog 15 #[.agg #[.int .i64 k, .int .i64 r, .int .i64 c, .int .i64 q, .slice lo n cl], .string ⟨s.toArray⟩] w fun e w' => ∃ R B I E, e = .returned (.tuple #[.int .i64 R, .int .i64 B, .bool I, .int .i64 E]) /\ RowKit.Below w.heap.size w w' /\ FndR X s bE bL eF lF R B I E := by
 obtain ⟨w0, hw0⟩ : ∃ w0, w0 = w.alloc (.cells #[.int .i64 k, .int .i64 r, .int .i64 c, .int .i64 q, .slice lo n cl] 26) := ⟨_, rfl⟩
 have b0 : RowKit.Below w.heap.size w w0 := by rw [hw0]; exact below_alloc _ _
 have HB0 : Hid (RowKit.Below w.heap.size w w0) := b0
 have HIM : Hid (∀ v, RowKit.Below w0.heap.size w0 v -> v.cell? ⟨w.heap.size, 0, none⟩ = some (.int .i64 k) /\ v.cell? ⟨w.heap.size, 1, none⟩ = some (.int .i64 r) /\ v.cell? ⟨w.heap.size, 2, none⟩ = some (.int .i64 c) /\ v.cell? ⟨w.heap.size, 3, none⟩ = some (.int .i64 q) /\ v.cell? ⟨w.heap.size, 4, none⟩ = some (.slice lo n cl)) := fun v hv => ⟨blk_held hw0 hv 0 rfl, blk_held hw0 hv 1 rfl, blk_held hw0 hv 2 rfl, blk_held hw0 hv 3 rfl, blk_held hw0 hv 4 rfl⟩
 unfold AnsI at HB
 unfold AnsE at HE
 have hc := HC.out w0 b0
 have HBL : Hid (bE = 0 -> bL.length = 4) := hbL
 clear HC hbL
 go_enter Tryz.func15, Tryz.ntmps15
 go_wp2_with fail
 rw [<- hw0]
 refine hc.mono ?_
 rintro e wa ⟨rfl, ha⟩
 have HAB : Hid (RowKit.Below w0.heap.size w0 wa) := ha
 clear hc hw0 b0
 by_cases hX : X = 0
 rotate_left
 ·have hz : (X != 0) = true := by simpa using hX
  have HX : Hid (X ≠ 0) := hX
  clear hX HIM
  go_wp2_with fail
  (try simp only [Exit.inBlock, Exit.then]); refine bodyPost_ret (results_four rfl _ _ _) rfl ?_
  exact ⟨0, 0, false, X, rfl, below_then HB0.out ha, .inl ⟨HX.out, rfl, rfl, rfl⟩⟩
 subst hX
 clear ha
 have hn := Bucket_any s wa
 cases hm : mayN s
 ·rw [erM_bad hm] at hn
  go_wp2_with fail
  refine hn.mono ?_
  rintro e wb ⟨rfl, rfl⟩
  clear hn
  go_wp2_with fail
  (try simp only [Exit.inBlock, Exit.then]); refine bodyPost_ret (results_four rfl _ _ _) rfl ?_
  exact ⟨0, 0, false, 6, rfl, below_then HB0.out HAB.out, .inl ⟨by decide, rfl, rfl, rfl⟩⟩
 have HM : Hid (mayN s = true) := hm
 rw [erM_good hm] at hn
 obtain ⟨bk, hbk⟩ : ∃ bk : Nat, bk = (bkt s).toNat := ⟨_, rfl⟩
 have hb1 : bkt s = (bk : Int) := by have := bkt_at s; omega
 have HBK : Hid (bk < 4 /\ bk = (bkt s).toNat) := ⟨by have := bkt_at s; omega, hbk⟩
 rw [hb1] at hn
 clear hbk hb1 hm
 go_wp2_with fail
 refine hn.mono ?_
 rintro e wb ⟨rfl, rfl⟩
 obtain ⟨t0, t1, t2, t3, t4⟩ := HIM.out wb HAB.out
 clear hn
 go_wp2_with fail
 refine (HB.out _ (below_then HB0.out HAB.out)).mono ?_
 rintro e wc ⟨bo, bc, rfl, hob, hb⟩
 have HBC : Hid (RowKit.Below w0.heap.size w0 wc) := below_then HAB.out hb
 have HOB : Hid (OwI wb.heap.size wc bo bL bc) := hob
 clear t0 t1 t2 t3 t4 hb hob HB
 by_cases hbE : bE = 0
 rotate_left
 ·have hz : (bE != 0) = true := by simpa using hbE
  have HX : Hid (bE ≠ 0) := hbE
  clear hbE HIM
  go_wp2_with fail
  (try simp only [Exit.inBlock, Exit.then]); refine bodyPost_ret (results_four rfl _ _ _) rfl ?_
  exact ⟨0, 0, false, bE, rfl, below_then HB0.out HBC.out, .inl ⟨HX.out, rfl, rfl, rfl⟩⟩
 subst hbE
 have hlen := HBL.out rfl
 obtain ⟨b, off, rfl, hcc⟩ := HOB.out.rei.at_ (by omega)
 have hbk4 := HBK.out.1
 have c0 := hcc bk (by omega)
 obtain ⟨t0, t1, t2, t3, t4⟩ := HIM.out wc HBC.out
 obtain ⟨x, hx⟩ : ∃ x, x = bL.getD bk 0 := ⟨_, rfl⟩
 have HXX : Hid (x = bL.getD bk 0) := hx
 rw [<- hx] at c0
 have i1 : (0 : Int) <= (bk : Int) := by omega
 have i2 : (bk : Int) < (bL.length : Int) := by omega
 clear hx hlen hcc hbk4
 have KS : Hid (∀ u, RowKit.Below wc.heap.size wc u -> u.cell? ⟨w.heap.size, 0, none⟩ = some (.int .i64 k) /\ u.cell? ⟨w.heap.size, 1, none⟩ = some (.int .i64 r) /\ u.cell? ⟨w.heap.size, 2, none⟩ = some (.int .i64 c) /\ u.cell? ⟨w.heap.size, 3, none⟩ = some (.int .i64 q) /\ u.cell? ⟨w.heap.size, 4, none⟩ = some (.slice lo n cl) /\ u.cell? ⟨b, off + bk, none⟩ = some (.int .i64 x)) := fun u hu => ⟨held t0 hu, held t1 hu, held t2 hu, held t3 hu, held t4 hu, held c0 hu⟩
 go_wp2_with fail
 go_region_held3 (fun v => v.cell? ⟨w.heap.size, 0, none⟩ = some (.int .i64 k) /\ v.cell? ⟨w.heap.size, 1, none⟩ = some (.int .i64 r) /\ v.cell? ⟨w.heap.size, 2, none⟩ = some (.int .i64 c) /\ v.cell? ⟨w.heap.size, 3, none⟩ = some (.int .i64 q) /\ v.cell? ⟨w.heap.size, 4, none⟩ = some (.slice lo n cl) /\ v.cell? ⟨b, off + bk, none⟩ = some (.int .i64 x)) ((first | (exact KS.out _ (below_drew _ _)) | (exact KS.out _ HD0.out)))
  ((go_at_call 26; refine (HE.out x _ (below_then (below_then HB0.out HBC.out) (below_drew _ _))).mono ?_; rintro e wd ⟨uo, uc, rfl, hou, hd0⟩; have HD0 : Hid (RowKit.Below wc.heap.size wc wd) := below_then (below_drew _ _) hd0; have HOU : Hid (OwE wc.drew.heap.size wd uo (lF x) uc) := hou; clear hou hd0))
 have c1 := held c0 HD0.out
 obtain ⟨t0', t1', t2', t3', t4'⟩ := HIM.out wd (below_then HBC.out HD0.out)
 have HDD : Hid (RowKit.Below w.heap.size w wd) := below_then (below_then HB0.out HBC.out) HD0.out
 clear HE KS t0 t1 t2 t3 t4 c0
 obtain ⟨ex, hex⟩ : ∃ ex, ex = eF x := ⟨_, rfl⟩
 obtain ⟨l, hl⟩ : ∃ l, l = lF x := ⟨_, rfl⟩
 have HEX : Hid (ex = eF x /\ l = lF x) := ⟨hex, hl⟩
 rw [<- hex]
 rw [<- hl] at HOU ⊢
 clear hex hl
 by_cases hE : ex = 0
 rotate_left
 ·have hz : (ex != 0) = true := by simpa using hE
  have HX : Hid (ex ≠ 0) := hE
  clear hE HIM t0' t1' t2' t3' t4' c1
  go_wp2_with fail
  (try simp only [Exit.inBlock, Exit.then]); refine bodyPost_ret (results_four rfl _ _ _) rfl ?_
  exact ⟨0, 0, false, ex, rfl, HDD.out, .inl ⟨HX.out, rfl, rfl, rfl⟩⟩
 subst hE
 have hd := HD.out x HEX.out.1.symm HM.out wd uo uc (by rw [<- HEX.out.2]; exact HOU.out.ren)
 rw [<- HEX.out.2] at hd
 obtain ⟨R, hR⟩ : ∃ R, R = fiR 0 l s := ⟨_, rfl⟩
 obtain ⟨I, hI⟩ : ∃ I, I = asI 0 l s := ⟨_, rfl⟩
 rw [<- hR, <- hI] at hd
 have HR : Hid (FndR 0 s 0 bL eF lF R x I 0) := .inr ⟨rfl, rfl, HM.out, rfl, by rw [HXX.out, HBK.out.2], HEX.out.1.symm, by rw [<- HEX.out.2]; exact hR, by rw [<- HEX.out.2]; exact hI⟩
 clear hR hI HD
 go_wp2_with fail
 refine hd.mono ?_
 rintro e wf ⟨rfl, hf⟩
 have c2 := held c1 hf
 have HDF : Hid (RowKit.Below w.heap.size w wf) := below_then HDD.out hf
 clear hd hf t0' t1' t2' t3' t4' c1
 have c3 : ∀ u, RowKit.Below wf.heap.size wf u -> u.cell? ⟨b, off + bk, none⟩ = some (.int .i64 x) := fun u hu => held c2 hu
 go_wp2_with fail
 go_big_quiet (fail)
 have HDQ : Hid (RowKit.Below w.heap.size w (wf.drewN nq)) := below_then HDF.out (below_drewN _ _ _)
 go_wp2_with fail
 (try simp only [Exit.inBlock, Exit.then]); refine bodyPost_ret (results_four rfl _ _ _) rfl ?_
 exact ⟨R, x, I, 0, rfl, HDQ.out, HR.out⟩
end Go.Proofs.YtngcdlodcdgcaaaGreat.Dr
namespace Go.Proofs.YtngcdlodcdgcaaaGreat.Dr
open Go.RowKit Go.Sort
set_option maxHeartbeats 2000000 in
set_option maxRecDepth 100000 in
theorem found_core {k r c q : Int} (w : World) (lo : Option Addr) (n cl : Nat) (s : Nm) (X bE : Int) (bL : List Int) (hbL : bE = 0 -> bL.length = 4) (eF : Int -> Int) (lF : Int -> List En) (hri : ∀ o, eF o = 0 -> Ri (lF o) /\ (lF o).length <= 1000000)
  (HA : Hid (∀ u, Calls Tryz.prog 5 #[] u fun e w' => e = .returned (.bool true) /\ RowKit.Below u.heap.size u w'))
  (HG : Hid (∀ u, Calls Tryz.prog 6 #[.agg #[.int .i64 k, .int .i64 r, .int .i64 c, .int .i64 q, .slice lo n cl]] u fun e w' => (∃ b, e = .returned (.bool b)) /\ RowKit.Below u.heap.size u w'))
  (HF : Hid (∀ u, RowKit.Below w.heap.size w u -> Calls Tryz.prog 15 #[.agg #[.int .i64 k, .int .i64 r, .int .i64 c, .int .i64 q, .slice lo n cl], .string ⟨s.toArray⟩] u fun e w' => ∃ R B I E, e = .returned (.tuple #[.int .i64 R, .int .i64 B, .bool I, .int .i64 E]) /\ RowKit.Below u.heap.size u w' /\ FndR X s bE bL eF lF R B I E))
  (HB : Hid (∀ u, RowKit.Below w.heap.size w u -> Calls Tryz.prog 11 #[.agg #[.int .i64 k, .int .i64 r, .int .i64 c, .int .i64 q, .slice lo n cl]] u (AnsI u bE bL)))
  (HE : Hid (X = 0 -> bE = 0 -> ∀ i, i < 4 -> ∀ u, RowKit.Below w.heap.size w u -> Calls Tryz.prog 12 #[.agg #[.int .i64 k, .int .i64 r, .int .i64 c, .int .i64 q, .slice lo n cl], .int .i64 ((i : Nat) : Int)] u (AnsE u (eF (bL.getD i 0)) (lF (bL.getD i 0))))) :
  Calls Tryz.prog 4 #[.agg #[.int .i64 k, .int .i64 r, .int .i64 c, .int .i64 q, .slice lo n cl], .string ⟨s.toArray⟩] w fun e w' => e = .returned (.bool true) /\ RowKit.Below w.heap.size w w' := by
 obtain ⟨w0, hw0⟩ : ∃ w0, w0 = w.alloc (.cells #[.int .i64 k, .int .i64 r, .int .i64 c, .int .i64 q, .slice lo n cl] 26) := ⟨_, rfl⟩
 have b0 : RowKit.Below w.heap.size w w0 := by rw [hw0]; exact below_alloc _ _
 have HB0 : Hid (RowKit.Below w.heap.size w w0) := b0
 have HIM : Hid (∀ v, RowKit.Below w0.heap.size w0 v -> v.cell? ⟨w.heap.size, 0, none⟩ = some (.int .i64 k) /\ v.cell? ⟨w.heap.size, 1, none⟩ = some (.int .i64 r) /\ v.cell? ⟨w.heap.size, 2, none⟩ = some (.int .i64 c) /\ v.cell? ⟨w.heap.size, 3, none⟩ = some (.int .i64 q) /\ v.cell? ⟨w.heap.size, 4, none⟩ = some (.slice lo n cl)) := fun v hv => ⟨blk_held hw0 hv 0 rfl, blk_held hw0 hv 1 rfl, blk_held hw0 hv 2 rfl, blk_held hw0 hv 3 rfl, blk_held hw0 hv 4 rfl⟩
 unfold AnsI at HB
 unfold AnsE at HE
 have HBL : Hid (bE = 0 -> bL.length = 4) := hbL
 have HRI : Hid (∀ o, eF o = 0 -> Ri (lF o) /\ (lF o).length <= 1000000) := hri
 clear hbL hri
 go_enter Tryz.func4, Tryz.ntmps4
 go_wp2_with fail
 rw [<- hw0]
 clear hw0 b0
 refine (HA.out _).mono ?_
 rintro e wa ⟨rfl, ha⟩
 obtain ⟨s0, s1, s2, s3, s4⟩ := HIM.out wa ha
 go_wp2_with fail
 refine (HG.out _).mono ?_
 rintro e wb ⟨⟨b, rfl⟩, hb⟩
 have HAB : Hid (RowKit.Below w0.heap.size w0 wb) := below_then ha hb
 clear s0 s1 s2 s3 s4 ha hb HA HG
 cases b
 rotate_left
 ·go_wp2_with fail
  go_ret
  exact ⟨rfl, below_then HB0.out HAB.out⟩
 obtain ⟨s0, s1, s2, s3, s4⟩ := HIM.out wb HAB.out
 go_wp2_with fail
 refine (HF.out _ (below_then HB0.out HAB.out)).mono ?_
 rintro e wc ⟨R, B, I, E, rfl, hc, hfr⟩
 have HAC : Hid (RowKit.Below w0.heap.size w0 wc) := below_then HAB.out hc
 clear s0 s1 s2 s3 s4 hc HF
 rcases hfr with ⟨hE, rfl, rfl, rfl⟩ | ⟨rfl, rfl, hm, rfl, hB, heB, hR, hI⟩
 ·have hz : (E != 0) = true := by simpa using hE
  clear hE
  go_wp2_with fail
  go_ret
  exact ⟨rfl, below_then HB0.out HAC.out⟩
 have HLen : Hid (bL.length = 4) := HBL.out rfl
 clear HBL
 have hn := Bucket_any s wc
 rw [erM_good hm] at hn
 obtain ⟨bk, hbk⟩ : ∃ bk : Nat, bk = (bkt s).toNat := ⟨_, rfl⟩
 have hb1 : bkt s = (bk : Int) := by have := bkt_at s; omega
 have HBK : Hid (bk < 4 /\ bk = (bkt s).toNat) := ⟨by have := bkt_at s; omega, hbk⟩
 rw [hb1] at hn
 rw [<- hbk] at hB
 have HL : Hid (isE (lF B) s = I /\ (I = true -> R = gR (lF B) (posE (lF B) s)) /\ (I = false -> R = 0) /\ Ri (lF B) /\ (lF B).length <= 1000000) := by
  obtain ⟨h1, h2⟩ := HRI.out B heB
  refine ⟨by rw [hI]; unfold asI; simp, fun h => ?_, fun h => ?_, h1, h2⟩
  ·rw [hR]; unfold fiR; rw [<- hI, h]; rfl
  ·rw [hR]; unfold fiR; rw [<- hI, h]; rfl
 have HBB : Hid (B = bL.getD bk 0) := hB
 have HEB : Hid (eF B = 0) := heB
 have hEn := HE.out rfl rfl bk HBK.out.1
 rw [<- hB, heB] at hEn
 obtain ⟨l, hl⟩ : ∃ l, l = lF B := ⟨_, rfl⟩
 rw [<- hl] at hEn HL
 have HEn : Hid (∀ u, RowKit.Below w.heap.size w u -> Calls Tryz.prog 12 #[.agg #[.int .i64 k, .int .i64 r, .int .i64 c, .int .i64 q, .slice lo n cl], .int .i64 ((bk : Nat) : Int)] u (AnsE u 0 l)) := hEn
 unfold AnsE at HEn
 clear hbk hb1 hm hB heB hR hI hEn hl HE HRI
 go_wp2_with fail
 refine hn.mono ?_
 rintro e wd ⟨rfl, rfl⟩
 obtain ⟨s0, s1, s2, s3, s4⟩ := HIM.out wd HAC.out
 clear hn
 go_wp2_with fail
 refine (HB.out _ (below_then HB0.out HAC.out)).mono ?_
 rintro e we ⟨bo, bc, rfl, hob, hb⟩
 have HAE : Hid (RowKit.Below w0.heap.size w0 we) := below_then HAC.out hb
 have hlen := HLen.out
 obtain ⟨b, off, rfl, hcc⟩ := hob.rei.at_ (by omega)
 have hbk4 := HBK.out.1
 have c0 := hcc bk (by omega)
 rw [<- HBB.out] at c0
 have i1 : (0 : Int) <= (bk : Int) := by omega
 have i2 : (bk : Int) < (bL.length : Int) := by omega
 clear s0 s1 s2 s3 s4 hb hob HB hlen hcc hbk4 HLen
 obtain ⟨s0, s1, s2, s3, s4⟩ := HIM.out we HAE.out
 go_wp2_with fail
 refine (HEn.out _ (below_then HB0.out HAE.out)).mono ?_
 rintro e wf ⟨uo, uc, rfl, hou, hf⟩
 have c1 := held c0 hf
 have HAF : Hid (RowKit.Below w.heap.size w wf) := below_then HB0.out (below_then HAE.out hf)
 have HOU : Hid (Ren wf uo l uc) := hou.ren
 clear s0 s1 s2 s3 s4 hf hou HEn c0
 go_wp2_with fail
 go_loopw [16] (fun x wr => ∃ i : Nat, i <= l.length /\ x = .int .i64 (i : Int) /\ wr = wf /\ Hid (∀ t, t < i -> gN l t ≠ s)) (fun x _ => l.length - (intOf x).toNat)
 case atStart => exact ⟨0, Nat.zero_le _, rfl, rfl, fun t ht => absurd ht (Nat.not_lt_zero _)⟩
 case round =>
  obtain ⟨i, hi, rfl, rfl, hno⟩ := hrel
  have hl6 := HL.out.2.2.2.2
  by_cases hlt : i < l.length
  ·obtain ⟨b', off', rfl, hcc⟩ := HOU.out.at_ (by omega)
   obtain ⟨d0, d1⟩ := hcc i hlt
   have j1 : (0 : Int) <= (i : Int) := by omega
   have j2 : (i : Int) < (l.length : Int) := by omega
   obtain ⟨z, hz⟩ : ∃ z, z = gN l i := ⟨_, rfl⟩
   obtain ⟨y, hy⟩ : ∃ y, y = gR l i := ⟨_, rfl⟩
   have HZ : Hid (z = gN l i /\ y = gR l i) := ⟨hz, hy⟩
   rw [<- hz] at d0
   rw [<- hy] at d1
   clear hz hy hcc
   by_cases hzs : z = s
   ·subst hzs
    have HIR : Hid (I = true /\ R = y) := by
     have hm := found_mem HL.out.2.2.2.1 (y := l[i]) (List.getElem_mem _)
     rw [<- gN_eq hlt, <- gR_eq hlt, <- HZ.out.1, <- HZ.out.2] at hm
     have h1 : I = true := by rw [<- HL.out.1]; exact hm.1
     exact ⟨h1, by rw [HL.out.2.1 h1, hm.2.2]⟩
    obtain ⟨rfl, rfl⟩ := HIR.out
    clear hl6
    go_wp2_with fail
    go_ret
    exact ⟨rfl, HAF.out⟩
   ·have hzz : (z == s) = false := by simpa using hzs
    have HZS : Hid (z ≠ s) := hzs
    clear hzs
    go_wp2_with fail
    go_roundw
    case rel => exact ⟨i + 1, by omega, by go_num, trivial, fun t ht => by
      rcases Nat.lt_succ_iff_lt_or_eq.1 ht with g | g
      ·exact hno.out t g
      ·subst g; rw [<- HZ.out.1]; exact HZS.out⟩
    case measure => simp [intOf]; omega
  ·have HIR : Hid (I = false /\ R = 0) := by
    have h1 : I = false := by
     rw [<- HL.out.1, Bool.eq_false_iff, Ne, is_iff HL.out.2.2.2.1]
     rintro ⟨y, hy, e⟩
     obtain ⟨t, ht, rfl⟩ := List.mem_iff_getElem.1 hy
     exact hno.out t (by omega) (by rw [gN_eq ht]; exact e)
    exact ⟨h1, HL.out.2.2.1 h1⟩
   obtain ⟨rfl, rfl⟩ := HIR.out
   have hlt2 : ¬ ((i : Int) < (l.length : Int)) := by omega
   clear hl6
   go_wp2_with fail
   go_ret
   exact ⟨rfl, HAF.out⟩
end Go.Proofs.YtngcdlodcdgcaaaGreat.Dr
