import Derived.Test.YtngcdlodcdgcaaaGreatZk6
import Derived.Test.YtngcdlodcdgcaaaGreatZk9
namespace Go.Proofs.YtngcdlodcdgcaaaGreat.Dr
open Go.RowKit Go.Sort
def RdN (w : World) (ao : Option Addr) (l : List Int) : Prop := 0 < l.length -> ∃ b off, ao = some ⟨b, off, none⟩ /\ ∀ i, i < l.length -> w.cell? ⟨b, off + i, none⟩ = some (.int .i64 (l.getD i 0))
theorem RdN.below {w w' : World} {ao : Option Addr} {l : List Int} (h : RdN w ao l) (hb : RowKit.Below w.heap.size w w') : RdN w' ao l := fun hn => by
 obtain ⟨b, off, e, hc⟩ := h hn
 exact ⟨b, off, e, fun i hi => held (hc i hi) hb⟩
set_option maxHeartbeats 1000000 in
set_option maxRecDepth 100000 in
theorem among_yes (w : World) (ao : Option Addr) (l : List Int) (cap : Nat) (h : RdN w ao l) (x : Int) (hn : l.length <= 1000000000000) (hx : x ∈ l) :
  Calls Tryz.prog 14 #[.slice ao l.length cap, .int .i64 x] w fun e w' => e = .returned (.bool true) /\ w' = w := by
 obtain ⟨j0, hj0, hx0⟩ := List.mem_iff_getElem.1 hx
 obtain ⟨b, off, rfl, hc⟩ := h (by omega)
 have HC : Hid (∀ i, i < l.length -> w.cell? ⟨b, off + i, none⟩ = some (.int .i64 (l.getD i 0))) := hc
 have HX : Hid (j0 < l.length /\ l.getD j0 0 = x) := ⟨hj0, by rw [List.getD_eq_getElem?_getD, List.getElem?_eq_getElem hj0]; exact hx0⟩
 clear hc h hx0 hj0 hx
 go_enter Tryz.func14, Tryz.ntmps14
 go_wp2_with fail
 go_loopw [5] (fun y wr => ∃ i : Nat, i <= j0 /\ y = .int .i64 (i : Int) /\ wr = w) (fun y _ => l.length - (intOf y).toNat)
 case atStart => exact ⟨0, Nat.zero_le _, rfl, rfl⟩
 case round =>
  obtain ⟨i, hi, rfl, rfl⟩ := hrel
  have hj := HX.out.1
  have c0 := HC.out i (by omega)
  obtain ⟨z, hz⟩ : ∃ z, z = l.getD i 0 := ⟨_, rfl⟩
  have HZ : Hid (z = l.getD i 0) := hz
  rw [<- hz] at c0
  have i1 : (0 : Int) <= (i : Int) := by omega
  have i2 : (i : Int) < (l.length : Int) := by omega
  clear hz
  by_cases hzx : z = x
  ·subst hzx
   go_wp2_with fail
   go_ret
   exact ⟨rfl, rfl⟩
  ·have hzz : (z == x) = false := by simpa using hzx
   have hne : i ≠ j0 := fun e => hzx (by rw [HZ.out, e]; exact HX.out.2)
   go_wp2_with fail
   go_roundw
   case rel => exact ⟨i + 1, by omega, by go_num, trivial⟩
   case measure => simp [intOf]; omega
set_option maxHeartbeats 2000000 in
set_option maxRecDepth 100000 in
theorem rows_bad {k r c q : Int} (w : World) (lo : Option Addr) (n cl : Nat) (E : Int) (hE : E ≠ 0) (dE : Int) (dL : List Int) (nx X : Int)
  (HA : Hid (∀ u, Calls Tryz.prog 5 #[] u fun e w' => e = .returned (.bool true) /\ RowKit.Below u.heap.size u w'))
  (HG : Hid (∀ u, Calls Tryz.prog 6 #[.agg #[.int .i64 k, .int .i64 r, .int .i64 c, .int .i64 q, .slice lo n cl]] u fun e w' => (∃ b, e = .returned (.bool b)) /\ RowKit.Below u.heap.size u w'))
  (HS : Hid (∀ u, RowKit.Below w.heap.size w u -> Calls Tryz.prog 7 #[.agg #[.int .i64 k, .int .i64 r, .int .i64 c, .int .i64 q, .slice lo n cl]] u (AnsL u E [])))
  (HR : Hid (∀ u, RowKit.Below w.heap.size w u -> Calls Tryz.prog 8 #[.agg #[.int .i64 k, .int .i64 r, .int .i64 c, .int .i64 q, .slice lo n cl]] u fun e w' => e = .returned (.tuple #[.slice none 0 0, .int .i64 E]) /\ RowKit.Below u.heap.size u w'))
  (HD : Hid (∀ u, RowKit.Below w.heap.size w u -> Calls Tryz.prog 9 #[.agg #[.int .i64 k, .int .i64 r, .int .i64 c, .int .i64 q, .slice lo n cl]] u (AnsI u dE dL)))
  (HN : Hid (∀ u, RowKit.Below w.heap.size w u -> Calls Tryz.prog 10 #[.agg #[.int .i64 k, .int .i64 r, .int .i64 c, .int .i64 q, .slice lo n cl]] u fun e w' => e = .returned (.tuple #[.int .i64 nx, .int .i64 X]) /\ RowKit.Below u.heap.size u w')) :
  Calls Tryz.prog 3 #[.agg #[.int .i64 k, .int .i64 r, .int .i64 c, .int .i64 q, .slice lo n cl]] w fun e w' => e = .returned (.bool true) /\ RowKit.Below w.heap.size w w' := by
 obtain ⟨w0, hw0⟩ : ∃ w0, w0 = w.alloc (.cells #[.int .i64 k, .int .i64 r, .int .i64 c, .int .i64 q, .slice lo n cl] 26) := ⟨_, rfl⟩
 have b0 : RowKit.Below w.heap.size w w0 := by rw [hw0]; exact below_alloc _ _
 have HB0 : Hid (RowKit.Below w.heap.size w w0) := b0
 have HIM : Hid (∀ v, RowKit.Below w0.heap.size w0 v -> v.cell? ⟨w.heap.size, 0, none⟩ = some (.int .i64 k) /\ v.cell? ⟨w.heap.size, 1, none⟩ = some (.int .i64 r) /\ v.cell? ⟨w.heap.size, 2, none⟩ = some (.int .i64 c) /\ v.cell? ⟨w.heap.size, 3, none⟩ = some (.int .i64 q) /\ v.cell? ⟨w.heap.size, 4, none⟩ = some (.slice lo n cl)) := fun v hv => ⟨blk_held hw0 hv 0 rfl, blk_held hw0 hv 1 rfl, blk_held hw0 hv 2 rfl, blk_held hw0 hv 3 rfl, blk_held hw0 hv 4 rfl⟩
 have hz : (E != 0) = true := by simpa using hE
 have hzz : (E == E) = true := by simp
 unfold AnsL at HS
 unfold AnsI at HD
 clear hE
 go_enter Tryz.func3, Tryz.ntmps3
 go_wp2_with fail
 rw [<- hw0]
 clear hw0 b0
 refine (HA.out _).mono ?_
 rintro e wa ⟨rfl, ha⟩
 obtain ⟨s0, s1, s2, s3, s4⟩ := HIM.out wa ha
 go_wp2_with fail
 refine (HG.out _).mono ?_
 rintro e wb ⟨⟨b, rfl⟩, hb⟩
 have HAB : Hid (RowKit.Below w0.heap.size w0 wb) := below_then ha hb
 clear s0 s1 s2 s3 s4 ha hb HA HG
 cases b
 rotate_left
 ·go_wp2_with fail
  go_ret
  exact ⟨rfl, below_then HB0.out HAB.out⟩
 obtain ⟨s0, s1, s2, s3, s4⟩ := HIM.out wb HAB.out
 go_wp2_with fail
 refine (HS.out _ (below_then HB0.out HAB.out)).mono ?_
 rintro e wc ⟨lo', lc, rfl, _, hc⟩
 have HAC : Hid (RowKit.Below w0.heap.size w0 wc) := below_then HAB.out hc
 clear s0 s1 s2 s3 s4 hc HS
 obtain ⟨s0, s1, s2, s3, s4⟩ := HIM.out wc HAC.out
 go_wp2_with fail
 refine (HR.out _ (below_then HB0.out HAC.out)).mono ?_
 rintro e wd ⟨rfl, hd⟩
 have HAD : Hid (RowKit.Below w0.heap.size w0 wd) := below_then HAC.out hd
 clear s0 s1 s2 s3 s4 hd HR
 obtain ⟨s0, s1, s2, s3, s4⟩ := HIM.out wd HAD.out
 go_wp2_with fail
 refine (HD.out _ (below_then HB0.out HAD.out)).mono ?_
 rintro e we ⟨do', dc, rfl, _, he⟩
 have HAE : Hid (RowKit.Below w0.heap.size w0 we) := below_then HAD.out he
 clear s0 s1 s2 s3 s4 he HD
 obtain ⟨s0, s1, s2, s3, s4⟩ := HIM.out we HAE.out
 go_wp2_with fail
 refine (HN.out _ (below_then HB0.out HAE.out)).mono ?_
 rintro e wf ⟨rfl, hf⟩
 have HAF : Hid (RowKit.Below w.heap.size w wf) := below_then HB0.out (below_then HAE.out hf)
 clear s0 s1 s2 s3 s4 hf HN
 go_wp2_with fail
 go_ret
 exact ⟨rfl, HAF.out⟩
structure Told (dL bL ls : List Int) (l : List Li) (SL : Int -> List Li) (xl : Nat -> List En) (pos : Nat -> Nat) (nx : Int) : Prop where
  b4 : bL.length = 4
  d0 : dL.getD 0 0 = 0
  db : ∀ i, i < 4 -> dL.getD (1 + i) 0 = bL.getD i 0
  p0 : pos 0 = 5
  p1 : ∀ i, i < 4 -> pos (i + 1) = pos i + (xl i).length
  p4 : pos 4 = dL.length
  px : ∀ i j, i < 4 -> j < (xl i).length -> pos i + j < dL.length /\ dL.getD (pos i + j) 0 = gR (xl i) j
  dn : dL.length <= 1000000
  sn : ∀ o, (SL o).length <= 5000
  ll : l = fLl SL dL
  ver : ∀ i, i < l.length -> gK l i = 2 -> gV l i < nx
  inc : ls.Pairwise (· < ·)
  mem : ∀ x, x ∈ ls ↔ ∃ j, j < l.length /\ gA l j = x
  few : ls.length <= l.length
theorem Told.ln {dL bL ls : List Int} {l : List Li} {SL : Int -> List Li} {xl : Nat -> List En} {pos : Nat -> Nat} {nx : Int} (h : Told dL bL ls l SL xl pos nx) : l.length <= 5000000000 := by
 rw [h.ll]
 have h1 := fLl_le (g := SL) h.sn dL
 have := Nat.mul_le_mul_right 5000 h.dn
 omega
set_option maxHeartbeats 16000000 in
set_option maxRecDepth 100000 in
theorem rows_core {k r c q : Int} (w : World) (lo : Option Addr) (n cl : Nat) (dL bL ls : List Int) (l : List Li) (SL : Int -> List Li) (xl : Nat -> List En) (pos : Nat -> Nat) (nx : Int) (ht : Told dL bL ls l SL xl pos nx)
  (HA : Hid (∀ u, Calls Tryz.prog 5 #[] u fun e w' => e = .returned (.bool true) /\ RowKit.Below u.heap.size u w'))
  (HG : Hid (∀ u, Calls Tryz.prog 6 #[.agg #[.int .i64 k, .int .i64 r, .int .i64 c, .int .i64 q, .slice lo n cl]] u fun e w' => (∃ b, e = .returned (.bool b)) /\ RowKit.Below u.heap.size u w'))
  (HS : Hid (∀ u, RowKit.Below w.heap.size w u -> Calls Tryz.prog 7 #[.agg #[.int .i64 k, .int .i64 r, .int .i64 c, .int .i64 q, .slice lo n cl]] u (AnsL u 0 l)))
  (HR : Hid (∀ u, RowKit.Below w.heap.size w u -> Calls Tryz.prog 8 #[.agg #[.int .i64 k, .int .i64 r, .int .i64 c, .int .i64 q, .slice lo n cl]] u fun e w' => ∃ ao cap, e = .returned (.tuple #[.slice ao ls.length cap, .int .i64 0]) /\ RdN w' ao ls /\ RowKit.Below u.heap.size u w'))
  (HD : Hid (∀ u, RowKit.Below w.heap.size w u -> Calls Tryz.prog 9 #[.agg #[.int .i64 k, .int .i64 r, .int .i64 c, .int .i64 q, .slice lo n cl]] u (AnsI u 0 dL)))
  (HN : Hid (∀ u, RowKit.Below w.heap.size w u -> Calls Tryz.prog 10 #[.agg #[.int .i64 k, .int .i64 r, .int .i64 c, .int .i64 q, .slice lo n cl]] u fun e w' => e = .returned (.tuple #[.int .i64 nx, .int .i64 0]) /\ RowKit.Below u.heap.size u w'))
  (HB : Hid (∀ u, RowKit.Below w.heap.size w u -> Calls Tryz.prog 11 #[.agg #[.int .i64 k, .int .i64 r, .int .i64 c, .int .i64 q, .slice lo n cl]] u (AnsI u 0 bL)))
  (HE : Hid (∀ i : Nat, i < 4 -> ∀ u, RowKit.Below w.heap.size w u -> Calls Tryz.prog 12 #[.agg #[.int .i64 k, .int .i64 r, .int .i64 c, .int .i64 q, .slice lo n cl], .int .i64 (i : Int)] u (AnsE u 0 (xl i))))
  (HT : Hid (∀ i : Nat, i < dL.length -> ∀ u, RowKit.Below w.heap.size w u -> Calls Tryz.prog 13 #[.agg #[.int .i64 k, .int .i64 r, .int .i64 c, .int .i64 q, .slice lo n cl], .int .i64 (dL.getD i 0)] u (AnsL u 0 (SL (dL.getD i 0))))) :
  Calls Tryz.prog 3 #[.agg #[.int .i64 k, .int .i64 r, .int .i64 c, .int .i64 q, .slice lo n cl]] w fun e w' => e = .returned (.bool true) /\ RowKit.Below w.heap.size w w' := by
 obtain ⟨w0, hw0⟩ : ∃ w0, w0 = w.alloc (.cells #[.int .i64 k, .int .i64 r, .int .i64 c, .int .i64 q, .slice lo n cl] 26) := ⟨_, rfl⟩
 have b0 : RowKit.Below w.heap.size w w0 := by rw [hw0]; exact below_alloc _ _
 have HB0 : Hid (RowKit.Below w.heap.size w w0) := b0
 have HIM : Hid (∀ v, RowKit.Below w0.heap.size w0 v -> v.cell? ⟨w.heap.size, 0, none⟩ = some (.int .i64 k) /\ v.cell? ⟨w.heap.size, 1, none⟩ = some (.int .i64 r) /\ v.cell? ⟨w.heap.size, 2, none⟩ = some (.int .i64 c) /\ v.cell? ⟨w.heap.size, 3, none⟩ = some (.int .i64 q) /\ v.cell? ⟨w.heap.size, 4, none⟩ = some (.slice lo n cl)) := fun v hv => ⟨blk_held hw0 hv 0 rfl, blk_held hw0 hv 1 rfl, blk_held hw0 hv 2 rfl, blk_held hw0 hv 3 rfl, blk_held hw0 hv 4 rfl⟩
 unfold AnsL at HS HT
 unfold AnsI at HD HB
 unfold AnsE at HE
 have HTO : Hid (Told dL bL ls l SL xl pos nx) := ht
 have HLN : Hid (l.length <= 5000000000) := ht.ln
 clear ht
 go_enter Tryz.func3, Tryz.ntmps3
 go_wp2_with fail
 rw [<- hw0]
 clear hw0 b0
 refine (HA.out _).mono ?_
 rintro e wa ⟨rfl, ha⟩
 obtain ⟨s0, s1, s2, s3, s4⟩ := HIM.out wa ha
 go_wp2_with fail
 refine (HG.out _).mono ?_
 rintro e wb ⟨⟨b, rfl⟩, hb⟩
 have HAB : Hid (RowKit.Below w0.heap.size w0 wb) := below_then ha hb
 clear s0 s1 s2 s3 s4 ha hb HA HG
 cases b
 rotate_left
 ·go_wp2_with fail
  go_ret
  exact ⟨rfl, below_then HB0.out HAB.out⟩
 obtain ⟨s0, s1, s2, s3, s4⟩ := HIM.out wb HAB.out
 go_wp2_with fail
 refine (HS.out _ (below_then HB0.out HAB.out)).mono ?_
 rintro e wc ⟨lo', lc, rfl, hlo, hc⟩
 have HAC : Hid (RowKit.Below w0.heap.size w0 wc) := below_then HAB.out hc
 have HLL : Hid (Rel wc lo' l lc) := hlo.rel
 clear s0 s1 s2 s3 s4 hc hlo HS
 obtain ⟨s0, s1, s2, s3, s4⟩ := HIM.out wc HAC.out
 go_wp2_with fail
 refine (HR.out _ (below_then HB0.out HAC.out)).mono ?_
 rintro e wd ⟨ro, rcp, rfl, hrr, hd⟩
 have HAD : Hid (RowKit.Below w0.heap.size w0 wd) := below_then HAC.out hd
 have HCD : Hid (RowKit.Below wc.heap.size wc wd) := hd
 have HRR : Hid (RdN wd ro ls) := hrr
 clear s0 s1 s2 s3 s4 hd hrr HR
 obtain ⟨s0, s1, s2, s3, s4⟩ := HIM.out wd HAD.out
 go_wp2_with fail
 refine (HD.out _ (below_then HB0.out HAD.out)).mono ?_
 rintro e we ⟨dd, dc, rfl, hdd, he⟩
 have HAE : Hid (RowKit.Below w0.heap.size w0 we) := below_then HAD.out he
 have HDE : Hid (RowKit.Below wd.heap.size wd we) := he
 have HDD : Hid (Rei we dd dL dc) := hdd.rei
 clear s0 s1 s2 s3 s4 he hdd HD
 obtain ⟨s0, s1, s2, s3, s4⟩ := HIM.out we HAE.out
 go_wp2_with fail
 refine (HN.out _ (below_then HB0.out HAE.out)).mono ?_
 rintro e wf ⟨rfl, hf⟩
 have HAF : Hid (RowKit.Below w0.heap.size w0 wf) := below_then HAE.out hf
 have HEF : Hid (RowKit.Below we.heap.size we wf) := hf
 clear s0 s1 s2 s3 s4 hf HN
 obtain ⟨s0, s1, s2, s3, s4⟩ := HIM.out wf HAF.out
 go_wp2_with fail
 refine (HB.out _ (below_then HB0.out HAF.out)).mono ?_
 rintro e wg ⟨bb, bc, rfl, hbb, hg⟩
 have HAG : Hid (RowKit.Below w0.heap.size w0 wg) := below_then HAF.out hg
 have HWG : Hid (RowKit.Below w.heap.size w wg) := below_then HB0.out HAG.out
 have HFG : Hid (RowKit.Below we.heap.size we wg) := below_then HEF.out hg
 have HD5 : Hid (5 <= dL.length) := by
  show _ <= _
  have h := HTO.out
  have h0 := h.p0
  have h1 : pos 1 = pos 0 + (xl 0).length := h.p1 0 (by omega)
  have h2 : pos 2 = pos 1 + (xl 1).length := h.p1 1 (by omega)
  have h3 : pos 3 = pos 2 + (xl 2).length := h.p1 2 (by omega)
  have h4 : pos 4 = pos 3 + (xl 3).length := h.p1 3 (by omega)
  have h5 := h.p4
  omega
 obtain ⟨gd, od, hdq, hcd⟩ := HDD.out.at_ (by have := HD5.out; omega)
 subst hdq
 have HCDl : Hid (∀ u, RowKit.Below wg.heap.size wg u -> ∀ i, i < dL.length -> u.cell? ⟨gd, od + i, none⟩ = some (.int .i64 (dL.getD i 0))) := fun u hu i hi => held (hcd i hi) (below_then HFG.out hu)
 obtain ⟨gb, obb, hbq, hcb⟩ := hbb.rei.at_ (by rw [HTO.out.b4]; omega)
 subst hbq
 have HCBl : Hid (∀ u, RowKit.Below wg.heap.size wg u -> ∀ i, i < 4 -> u.cell? ⟨gb, obb + i, none⟩ = some (.int .i64 (bL.getD i 0))) := fun u hu i hi => held (hcb i (by rw [HTO.out.b4]; exact hi)) hu
 have HLG : Hid (Rel wg lo' l lc) := HLL.out.below (below_then HCD.out (below_then HDE.out HFG.out))
 have HRG : Hid (RdN wg ro ls) := HRR.out.below (below_then HDE.out HFG.out)
 rw [HTO.out.b4]
 have c0 := HCDl.out wg (RowKit.Below.refl _ _) 0 (by have := HD5.out; omega)
 rw [HTO.out.d0, Nat.add_zero] at c0
 have d5 : decide ((dL.length : Int) < 5) = false := decide_eq_false (by have := HD5.out; omega)
 have d1 : (0 : Int) < (dL.length : Int) := by have := HD5.out; omega
 clear s0 s1 s2 s3 s4 hg hbb hcd hcb HB HLL HRR HDD HAB HAC HAD HAE HAF HCD HDE HEF HFG
 go_wp2_with fail
 clear d5 d1 c0
 go_loopw [14] (fun x wr => ∃ i : Nat, i <= 4 /\ x = .int .i64 (i : Int) /\ Hid (RowKit.Below wg.heap.size wg wr)) (fun x _ => 4 - (intOf x).toNat)
 case atStart => exact ⟨0, Nat.zero_le _, rfl, RowKit.Below.refl _ _⟩
 case round =>
  obtain ⟨i, hi, rfl, hb⟩ := hrel
  by_cases hlt : i < 4
  ·have c1 := HCBl.out wr hb.out i hlt
   obtain ⟨m, hm⟩ : ∃ m, m = 1 + i := ⟨_, rfl⟩
   have hml : m < dL.length := by have := HD5.out; omega
   have c2 := HCDl.out wr hb.out m hml
   rw [hm, HTO.out.db i hlt, <- hm] at c2
   obtain ⟨y, hy⟩ : ∃ y, y = bL.getD i 0 := ⟨_, rfl⟩
   rw [<- hy] at c1 c2
   have hw1 : IntKind.i64.wrap (1 + (i : Int)) = (m : Int) := by rw [IntKind.wrap_i64]; omega
   have i1 : (0 : Int) <= (i : Int) := by omega
   have i2 : (i : Int) < 4 := by omega
   have m1 : (0 : Int) <= (m : Int) := by omega
   have m2 : (m : Int) < (dL.length : Int) := by omega
   have HBr : Hid (RowKit.Below wg.heap.size wg wr) := hb.out
   have HI : Hid (i < 4) := hlt
   clear hy hm hml hb hlt
   go_wp2_with fail
   go_big_quiet (fail)
   have HBq : Hid (RowKit.Below wg.heap.size wg (wr.drewN nq)) := below_then HBr.out (below_drewN _ _ _)
   clear c1 c2
   go_wp2_with fail
   go_roundw
   case rel => exact ⟨i + 1, HI.out, by have := HI.out; go_num, HBq⟩
   case measure => have := HI.out; simp [intOf]; omega
  ·have h4 : (i : Int) = 4 := by omega
   rw [h4]
   have HB1 : Hid (RowKit.Below wg.heap.size wg wr) := hb.out
   clear hb hlt hi h4
   go_wp2_with fail
   go_loopw [15, 16] (fun a x wr => ∃ i P : Nat, i <= 4 /\ x = .int .i64 (i : Int) /\ a = .int .i64 (P : Int) /\ Hid (P = pos i) /\ Hid (RowKit.Below wg.heap.size wg wr)) (fun _ x _ => 4 - (intOf x).toNat)
   case atStart => exact ⟨0, 5, Nat.zero_le _, rfl, rfl, HTO.out.p0.symm, HB1.out⟩
   case round =>
    clear HB1
    obtain ⟨i, P, hi, rfl, rfl, hP, hb⟩ := hrel
    by_cases hlt : i < 4
    ·have HI : Hid (i < 4) := hlt
     have HBr : Hid (RowKit.Below wg.heap.size wg wr) := hb.out
     have hcall := HE.out i hlt wr (below_then HWG.out hb.out)
     obtain ⟨s0, s1, s2, s3, s4⟩ := HIM.out wr (below_then HAG.out hb.out)
     have i1 : (0 : Int) <= (i : Int) := by omega
     have i2 : (i : Int) < 4 := by omega
     obtain ⟨x, hx⟩ : ∃ x, x = xl i := ⟨_, rfl⟩
     have HX : Hid (x = xl i) := hx
     rw [<- hx] at hcall
     clear hx hb
     go_wp2_with fail
     refine hcall.mono ?_
     rintro e wh ⟨xo, xc, rfl, hxo, hh⟩
     have HBh : Hid (RowKit.Below wg.heap.size wg wh) := below_then HBr.out hh
     have HXO : Hid (Ren wh xo x xc) := hxo.ren
     have HXN : Hid (P + x.length <= dL.length) := by
      show _ <= _
      by_cases h0 : x.length = 0
      ·have h := HTO.out
       have a0 := h.p0
       have a1 : pos 1 = pos 0 + (xl 0).length := h.p1 0 (by omega)
       have a2 : pos 2 = pos 1 + (xl 1).length := h.p1 1 (by omega)
       have a3 : pos 3 = pos 2 + (xl 2).length := h.p1 2 (by omega)
       have a4 : pos 4 = pos 3 + (xl 3).length := h.p1 3 (by omega)
       have a5 := h.p4
       have hp := hP.out
       have hi4 := HI.out
       have h4 : i = 0 \/ i = 1 \/ i = 2 \/ i = 3 := by omega
       rcases h4 with e | e | e | e <;> rw [e] at hp <;> omega
      ·have := (HTO.out.px i (x.length - 1) HI.out (by rw [<- HX.out]; omega)).1
       rw [<- hP.out] at this
       omega
     clear s0 s1 s2 s3 s4 hh hxo hcall
     go_wp2_with fail
     go_loopw [15, 19] (fun a y wr => ∃ j : Nat, j <= x.length /\ y = .int .i64 (j : Int) /\ a = .int .i64 ((P + j : Nat) : Int) /\ Hid (RowKit.Below wh.heap.size wh wr)) (fun _ y _ => x.length - (intOf y).toNat)
     case atStart => exact ⟨0, Nat.zero_le _, rfl, rfl, RowKit.Below.refl _ _⟩
     case round =>
      obtain ⟨j, hj, rfl, rfl, hbj⟩ := hrel
      have hxn := HXN.out
      have hdn := HTO.out.dn
      by_cases hlj : j < x.length
      ·obtain ⟨gx, ox, hq, hcx⟩ := (HXO.out.below hbj.out).at_ (by omega)
       subst hq
       obtain ⟨_, x1⟩ := hcx j hlj
       have hpx := HTO.out.px i j HI.out (by rw [<- HX.out]; exact hlj)
       rw [<- HX.out, <- hP.out] at hpx
       have c2 := HCDl.out wr (below_then HBh.out hbj.out) (P + j) hpx.1
       rw [hpx.2] at c2
       obtain ⟨m, hm⟩ : ∃ m, m = P + j := ⟨_, rfl⟩
       obtain ⟨y, hy⟩ : ∃ y, y = gR x j := ⟨_, rfl⟩
       have HM : Hid (m = P + j) := hm
       rw [<- hm] at c2 ⊢
       rw [<- hy] at c2 x1
       have j1 : (0 : Int) <= (j : Int) := by omega
       have j2 : (j : Int) < (x.length : Int) := by omega
       have m1 : (0 : Int) <= (m : Int) := by omega
       have m2 : (m : Int) < (dL.length : Int) := by omega
       have m3 : decide (dL.length <= m) = false := decide_eq_false (by omega)
       have HBr2 : Hid (RowKit.Below wh.heap.size wh wr) := hbj.out
       have HJ : Hid (j < x.length /\ m < 1000000) := ⟨hlj, by omega⟩
       have j3 : (j : Int) < 1000000 := by omega
       have m4 : (m : Int) < 1000000 := by omega
       clear hcx hpx hm hy hbj hlj hxn
       go_wp2_with fail
       go_big_quiet (fail)
       have HBq : Hid (RowKit.Below wh.heap.size wh (wr.drewN nq)) := below_then HBr2.out (below_drewN _ _ _)
       clear x1 c2 m3
       go_wp2_with fail
       go_roundw
       case rel => exact ⟨j + 1, HJ.out.1, by have := HJ.out; have := HXN.out; go_num, by have := HJ.out; have := HM.out; go_num, HBq⟩
       case measure => have := HJ.out; have := HXN.out; simp [intOf]; omega
      ·obtain rfl : j = x.length := by omega
       have HBq : Hid (RowKit.Below wg.heap.size wg wr) := below_then HBh.out hbj.out
       clear hbj hlj hxn hdn
       go_wp2_with fail
       go_roundw
       case rel => exact ⟨i + 1, P + x.length, HI.out, by have := HI.out; go_num, rfl, by show _ = _; rw [HTO.out.p1 i HI.out, <- HX.out, hP.out], HBq⟩
       case measure => have := HI.out; simp [intOf]; omega
    ·have h4 : (i : Int) = 4 := by omega
     have h5 : i = 4 := by omega
     rw [h4]
     obtain rfl : P = dL.length := by rw [hP.out, h5, HTO.out.p4]
     have HB2 : Hid (RowKit.Below wg.heap.size wg wr) := hb.out
     clear hb hlt hi hP h4 h5
     go_wp2_with fail
     go_loopw [20, 21] (fun a x wr => ∃ (i : Nat) (ao : Option Addr) (ca : Nat) (G : List Li), i <= dL.length /\ x = .int .i64 (i : Int) /\ a = .slice ao G.length ca /\ Hid (G = fLl SL (dL.take i)) /\ Hid (OwL wg.heap.size wr ao G ca) /\ Hid (RowKit.Below wg.heap.size wg wr)) (fun _ x _ => dL.length - (intOf x).toNat)
     case atStart => exact ⟨0, none, 0, [], Nat.zero_le _, rfl, rfl, rfl, owl_nil _ _, HB2.out⟩
     case round =>
      clear HB2
      obtain ⟨i, ao, ca, G, hi, rfl, rfl, hG, hown, hbel⟩ := hrel
      have hdn := HTO.out.dn
      by_cases hlt : i < dL.length
      ·have c0 := HCDl.out wr hbel.out i hlt
       have hcall := HT.out i hlt
       obtain ⟨t0, t1, t2, t3, t4⟩ := HIM.out wr (below_then HAG.out hbel.out)
       have HLn : Hid (G.length <= 5000000000) := by
        show _ <= _
        rw [hG.out]
        have h1 := fLl_le (g := SL) HTO.out.sn (dL.take i)
        have h2 : (dL.take i).length <= 1000000 := by rw [List.length_take]; omega
        have := Nat.mul_le_mul_right 5000 h2
        omega
       obtain ⟨x, hx⟩ : ∃ x, x = dL.getD i 0 := ⟨_, rfl⟩
       have HNX : Hid (G ++ SL x = fLl SL (dL.take (i + 1))) := by
        show _ = _
        rw [fLl_take hlt, hG.out, hx]
       rw [<- hx] at c0 hcall
       have hgl := HTO.out.sn x
       obtain ⟨gx, hgx⟩ : ∃ gx, gx = SL x := ⟨_, rfl⟩
       rw [<- hgx] at hcall hgl HNX
       have HCL : Hid (∀ u, RowKit.Below w.heap.size w u -> Calls Tryz.prog 13 #[.agg #[.int .i64 k, .int .i64 r, .int .i64 c, .int .i64 q, .slice lo n cl], .int .i64 x] u fun e w' => ∃ ao ca, e = .returned (.tuple #[.slice ao gx.length ca, .int .i64 0]) /\ OwL u.heap.size w' ao gx ca /\ RowKit.Below u.heap.size u w') := hcall
       have i1 : (0 : Int) <= (i : Int) := by omega
       have i2 : (i : Int) < (dL.length : Int) := by omega
       have HBr : Hid (RowKit.Below wg.heap.size wg wr) := hbel.out
       have KS : Hid (∀ u, RowKit.Below wr.heap.size wr u -> u.cell? ⟨w.heap.size, 0, none⟩ = some (.int .i64 k) /\ u.cell? ⟨w.heap.size, 1, none⟩ = some (.int .i64 r) /\ u.cell? ⟨w.heap.size, 2, none⟩ = some (.int .i64 c) /\ u.cell? ⟨w.heap.size, 3, none⟩ = some (.int .i64 q) /\ u.cell? ⟨w.heap.size, 4, none⟩ = some (.slice lo n cl) /\ u.cell? ⟨gd, od + i, none⟩ = some (.int .i64 x)) := fun u hu => ⟨held t0 hu, held t1 hu, held t2 hu, held t3 hu, held t4 hu, held c0 hu⟩
       clear hx hgx hcall
       go_wp2_with fail
       go_region_held3 (fun v => v.cell? ⟨w.heap.size, 0, none⟩ = some (.int .i64 k) /\ v.cell? ⟨w.heap.size, 1, none⟩ = some (.int .i64 r) /\ v.cell? ⟨w.heap.size, 2, none⟩ = some (.int .i64 c) /\ v.cell? ⟨w.heap.size, 3, none⟩ = some (.int .i64 q) /\ v.cell? ⟨w.heap.size, 4, none⟩ = some (.slice lo n cl) /\ v.cell? ⟨gd, od + i, none⟩ = some (.int .i64 x)) ((first | (exact KS.out _ (below_drew _ _)) | (exact KS.out _ HD0.out)))
        ((go_at_call 13; refine (HCL.out _ (below_then (below_then HWG.out HBr.out) (below_drew _ _))).mono ?_; rintro e wd' ⟨uo, uc, rfl, hou, hd0⟩; have HD0 : Hid (RowKit.Below wr.heap.size wr wd') := below_then (below_drew _ _) hd0; have HOU : Hid (Rel wd' uo gx uc) := hou.rel; clear hou hd0))
       clear HCL KS t0 t1 t2 t3 t4 c0
       have HBd : Hid (RowKit.Below wg.heap.size wg wd') := below_then HBr.out HD0.out
       have hownd := hown.out.below HD0.out
       have hszd := HBd.out.size
       have hLn := HLn.out
       have hreid := HOU.out
       go_wp2_with (at_builtin; refine append_lives (by rfl) (.tmp 180) (.tmp 181) (by rfl) wg.heap.size ca uc ao uo G gx (by rfl) (by rfl) hownd hreid (by omega) hszd ?_; intro bo6 bc6 w6 L6 hL6 hown6 hg6; have HL6 : Hid (L6 = G ++ gx) := hL6; have HB6 : Hid (RowKit.Below wg.heap.size wg w6) := HBd.out.grown hg6 hszd hownd.ge; clear hL6 hg6)
       go_roundw
       case rel => exact ⟨i + 1, bo6, bc6, L6, by omega, by go_num, rfl, by show _ = _; rw [HL6.out]; exact HNX.out, hown6, HB6.out⟩
       case measure => simp [intOf]; omega
      ·obtain rfl : i = dL.length := by omega
       have HGL : Hid (G = l) := by
        show _ = _
        rw [hG.out, List.take_length, HTO.out.ll]
       obtain rfl := HGL.out
       have HB3 : Hid (RowKit.Below wg.heap.size wg wr) := hbel.out
       have HAL : Hid (Rel wr ao G ca) := hown.out.rel
       clear hown hG hbel hlt hi hdn HGL
       have e1 : ((dL.length : Int) != (dL.length : Int)) = false := by simp
       have e2 : ((G.length : Int) != (G.length : Int)) = false := by simp
       go_wp2_with fail
       clear e1 e2
       have HAM : Hid (∀ u z, RowKit.Below wg.heap.size wg u -> z ∈ ls -> Calls Tryz.prog 14 #[.slice ro ls.length rcp, .int .i64 z] u fun e w' => e = .returned (.bool true) /\ w' = u) := fun u z hu hz => among_yes u ro ls rcp (HRG.out.below hu) z (by have := HTO.out.few; have := HLN.out; omega) hz
       obtain ⟨wm, hwm⟩ : ∃ x, x = wr := ⟨wr, rfl⟩
       rw [<- hwm] at HB3 HAL ⊢
       clear hwm wr
       go_loopw [24] (fun x wr => ∃ i : Nat, i <= G.length /\ x = .int .i64 (i : Int) /\ Hid (RowKit.Below wm.heap.size wm wr)) (fun x _ => G.length - (intOf x).toNat)
       case atStart => exact ⟨0, Nat.zero_le _, rfl, RowKit.Below.refl _ _⟩
       case round =>
        obtain ⟨i, hi, rfl, hb⟩ := hrel
        have hgn := HLN.out
        have HBw : Hid (RowKit.Below wg.heap.size wg wr) := below_then HB3.out hb.out
        by_cases hlt : i < G.length
        ·obtain ⟨g1, o1, hq1, hc1⟩ := (HLG.out.below HBw.out).at_ (by omega)
         obtain ⟨g2, o2, hq2, hc2⟩ := (HAL.out.below hb.out).at_ (by omega)
         subst hq1 hq2
         obtain ⟨a0, a1, a2⟩ := hc1 i hlt
         obtain ⟨b0, b1, b2⟩ := hc2 i hlt
         have hver := HTO.out.ver i hlt
         have hmem := (HTO.out.mem (gA G i)).2 ⟨i, hlt, rfl⟩
         obtain ⟨p, hp⟩ : ∃ p, p = gA G i := ⟨_, rfl⟩
         obtain ⟨t, ht⟩ : ∃ t, t = gK G i := ⟨_, rfl⟩
         obtain ⟨y, hy⟩ : ∃ y, y = gV G i := ⟨_, rfl⟩
         rw [<- hp] at a0 b0 hmem
         rw [<- ht] at a1 b1 hver
         rw [<- hy] at a2 b2 hver
         have HMEM : Hid (p ∈ ls) := hmem
         have HBr : Hid (RowKit.Below wm.heap.size wm wr) := hb.out
         have HI : Hid (i < G.length) := hlt
         have i1 : (0 : Int) <= (i : Int) := by omega
         have i2 : (i : Int) < (G.length : Int) := by omega
         have e1 : (p == p) = true := by simp
         have e2 : (((t : Nat) : Int) == ((t : Nat) : Int)) = true := by simp
         have e3 : (y == y) = true := by simp
         clear hc1 hc2 hmem hp ht hy hb hlt
         by_cases ht2 : t = 2
         ·have HQ : Hid (((t : Nat) : Int) = 2 /\ decide (nx <= y) = false) := ⟨by omega, decide_eq_false (by have := hver ht2; omega)⟩
          clear hver
          subst ht2
          go_wp2_with fail
          obtain ⟨q1, q2⟩ := HQ.out
          go_big_quiet ((refine (HAM.out _ p (below_then HBw.out (below_drewN _ _ _)) HMEM.out).mono ?_; rintro e w' ⟨rfl, rfl⟩; exact ⟨rfl, _, rfl⟩))
          have HBq : Hid (RowKit.Below wm.heap.size wm (wr.drewN nq)) := below_then HBr.out (below_drewN _ _ _)
          clear a0 a1 a2 b0 b1 b2 q1 q2 e1 e2 e3
          go_wp2_with fail
          go_roundw
          case rel => exact ⟨i + 1, HI.out, by have := HI.out; go_num, HBq⟩
          case measure => have := HI.out; simp [intOf]; omega
         ·have HQ : Hid ((((t : Nat) : Int) == 2) = false) := by show _ = false; simp; omega
          clear hver ht2
          go_wp2_with fail
          have q1 := HQ.out
          go_big_quiet ((refine (HAM.out _ p (below_then HBw.out (below_drewN _ _ _)) HMEM.out).mono ?_; rintro e w' ⟨rfl, rfl⟩; exact ⟨rfl, _, rfl⟩))
          have HBq : Hid (RowKit.Below wm.heap.size wm (wr.drewN nq)) := below_then HBr.out (below_drewN _ _ _)
          clear a0 a1 a2 b0 b1 b2 q1 e1 e2 e3
          go_wp2_with fail
          go_roundw
          case rel => exact ⟨i + 1, HI.out, by have := HI.out; go_num, HBq⟩
          case measure => have := HI.out; simp [intOf]; omega
        ·obtain rfl : i = G.length := by omega
         have HB4 : Hid (RowKit.Below wg.heap.size wg wr) := HBw.out
         clear hb HBw hlt hi hgn HAM
         go_wp2_with fail
         go_loopw [25] (fun x wr => ∃ i : Nat, i <= ls.length /\ x = .int .i64 (i : Int) /\ Hid (RowKit.Below wg.heap.size wg wr)) (fun x _ => ls.length - (intOf x).toNat)
         case atStart => exact ⟨0, Nat.zero_le _, rfl, HB4.out⟩
         case round =>
          clear HB4
          obtain ⟨x, hx, rfl, hb⟩ := hrel
          have HLS : Hid (ls.length <= 5000000000) := by show _ <= _; have := HTO.out.few; have := HLN.out; omega
          by_cases hlx : x < ls.length
          ·obtain ⟨z, hz⟩ : ∃ z, z = ls.getD x 0 := ⟨_, rfl⟩
           have hzm : z ∈ ls := by rw [hz, List.getD_eq_getElem?_getD, List.getElem?_eq_getElem hlx]; exact List.getElem_mem _
           have HZM : Hid (∃ j, j < G.length /\ gA G j = z) := (HTO.out.mem z).1 hzm
           have HZ : Hid (z = ls.getD x 0) := hz
           have HBx : Hid (RowKit.Below wg.heap.size wg wr) := hb.out
           have HXL : Hid (x < ls.length) := hlx
           have hls := HLS.out
           have x1 : (0 : Int) <= (x : Int) := by omega
           have x2 : (x : Int) < (ls.length : Int) := by omega
           clear hz hzm hb
           go_wp2_with fail
           go_loopw [26, 27] (fun b y wr => ∃ j : Nat, j <= G.length /\ y = .int .i64 (j : Int) /\ (b = .bool true \/ (b = .bool false /\ Hid (∀ t, t < j -> gA G t ≠ z))) /\ Hid (RowKit.Below wg.heap.size wg wr)) (fun _ y _ => G.length - (intOf y).toNat)
           case atStart => exact ⟨0, Nat.zero_le _, rfl, .inr ⟨rfl, fun t h => absurd h (Nat.not_lt_zero _)⟩, HBx.out⟩
           case round =>
            clear HBx
            obtain ⟨j, hj, rfl, hbb, hb⟩ := hrel
            have hgn := HLN.out
            by_cases hlj : j < G.length
            ·obtain ⟨g1, o1, hq1, hc1⟩ := (HLG.out.below hb.out).at_ (by omega)
             obtain ⟨g2, o2, hq2, hc2⟩ := (HRG.out.below hb.out) (by have := HXL.out; omega)
             subst hq1 hq2
             obtain ⟨a0, _, _⟩ := hc1 j hlj
             have b0 := hc2 x HXL.out
             rw [<- HZ.out] at b0
             obtain ⟨p, hp⟩ : ∃ p, p = gA G j := ⟨_, rfl⟩
             have HP : Hid (p = gA G j) := hp
             rw [<- hp] at a0
             have j1 : (0 : Int) <= (j : Int) := by omega
             have j2 : (j : Int) < (G.length : Int) := by omega
             have HBr : Hid (RowKit.Below wg.heap.size wg wr) := hb.out
             have HJ : Hid (j < G.length) := hlj
             clear hc1 hc2 hp hb hlj
             rcases hbb with rfl | ⟨rfl, hn⟩
             ·go_wp2_with fail
              go_big_quiet (fail)
              have HBq : Hid (RowKit.Below wg.heap.size wg (wr.drewN nq)) := below_then HBr.out (below_drewN _ _ _)
              clear a0 b0
              go_wp2_with fail
              go_roundw
              case rel => exact ⟨j + 1, HJ.out, by have := HJ.out; go_num, .inl rfl, HBq⟩
              case measure => have := HJ.out; simp [intOf]; omega
             ·by_cases hpz : p = z
              ·subst hpz
               have e1 : (p == p) = true := by simp
               go_wp2_with fail
               go_big_quiet (fail)
               have HBq : Hid (RowKit.Below wg.heap.size wg (wr.drewN nq)) := below_then HBr.out (below_drewN _ _ _)
               clear a0 b0
               go_wp2_with fail
               go_roundw
               case rel => exact ⟨j + 1, HJ.out, by have := HJ.out; go_num, .inl rfl, HBq⟩
               case measure => have := HJ.out; simp [intOf]; omega
              ·have hzz : (p == z) = false := by simpa using hpz
               have HNZ : Hid (p ≠ z) := hpz
               clear hpz
               go_wp2_with fail
               go_big_quiet (fail)
               have HBq : Hid (RowKit.Below wg.heap.size wg (wr.drewN nq)) := below_then HBr.out (below_drewN _ _ _)
               clear a0 b0 hzz
               go_wp2_with fail
               go_roundw
               case rel => exact ⟨j + 1, HJ.out, by have := HJ.out; go_num, .inr ⟨rfl, fun t h => by
                rcases Nat.lt_succ_iff_lt_or_eq.1 h with g | g
                ·exact hn.out t g
                ·subst g; rw [<- HP.out]; exact HNZ.out⟩, HBq⟩
               case measure => have := HJ.out; simp [intOf]; omega
            ·rcases hbb with rfl | ⟨rfl, hn⟩
             rotate_left
             ·exfalso
              obtain ⟨j', hj', e⟩ := HZM.out
              exact hn.out j' (by omega) e
             have hlt2 : ¬ ((j : Int) < (G.length : Int)) := by omega
             have HBr : Hid (RowKit.Below wg.heap.size wg wr) := hb.out
             obtain ⟨g2, o2, hq2, hc2⟩ := (HRG.out.below hb.out) (by have := HXL.out; omega)
             subst hq2
             have b0 := hc2 x HXL.out
             rw [<- HZ.out] at b0
             have hls := HLS.out
             by_cases hx0 : x = 0
             ·have HX0 : Hid (x = 0) := hx0
              have g0 : decide (0 < x) = false := decide_eq_false (by omega)
              clear hb hc2 hx0 hgn
              go_wp2_with fail
              go_big_quiet (fail)
              have HBq : Hid (RowKit.Below wg.heap.size wg (wr.drewN nq)) := below_then HBr.out (below_drewN _ _ _)
              clear b0 g0
              go_wp2_with fail
              go_roundw
              case rel => exact ⟨x + 1, HXL.out, by have := HXL.out; go_num, HBq⟩
              case measure => have := HXL.out; simp [intOf]; omega
             ·obtain ⟨x', hx'⟩ : ∃ x', x = x' + 1 := ⟨x - 1, by omega⟩
              have b1 := hc2 x' (by have := HXL.out; omega)
              have hinc := List.pairwise_iff_getElem.1 HTO.out.inc x' x (by have := HXL.out; omega) HXL.out (by omega)
              obtain ⟨zp, hzp⟩ : ∃ zp, zp = ls.getD x' 0 := ⟨_, rfl⟩
              rw [<- hzp] at b1
              have hzl : zp < z := by
               rw [hzp, HZ.out, List.getD_eq_getElem?_getD, List.getD_eq_getElem?_getD, List.getElem?_eq_getElem HXL.out, List.getElem?_eq_getElem (by have := HXL.out; omega)]
               exact hinc
              have HG2 : Hid (decide (0 < x) = true /\ decide (z <= zp) = false) := ⟨decide_eq_true (by omega), decide_eq_false (by omega)⟩
              have hw1 : IntKind.i64.wrap ((x : Int) - 1) = (x' : Int) := by rw [IntKind.wrap_i64]; omega
              have y1 : (0 : Int) <= (x' : Int) := by omega
              have y2 : (x' : Int) < (ls.length : Int) := by omega
              clear hb hc2 hx0 hx' hinc hzp hzl hgn
              go_wp2_with fail
              obtain ⟨q1, q2⟩ := HG2.out
              go_big_quiet (fail)
              have HBq : Hid (RowKit.Below wg.heap.size wg (wr.drewN nq)) := below_then HBr.out (below_drewN _ _ _)
              clear b0 b1 q1 q2
              go_wp2_with fail
              go_roundw
              case rel => exact ⟨x + 1, HXL.out, by have := HXL.out; go_num, HBq⟩
              case measure => have := HXL.out; simp [intOf]; omega
          ·have hlt2 : ¬ ((x : Int) < (ls.length : Int)) := by omega
           have HB5 : Hid (RowKit.Below w.heap.size w wr) := below_then HWG.out hb.out
           clear hb hlx
           go_wp2_with fail
           go_ret
           exact ⟨rfl, HB5.out⟩
end Go.Proofs.YtngcdlodcdgcaaaGreat.Dr
