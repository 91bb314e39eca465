/- DescBytes: the bytes of any descriptor and leaf are what the document says. -/
import Derived.Test.YtjncnojplkljnaaDeE
import Derived.Test.YtjncnojplkljnaaDeF
import Derived.Test.YtjncnojplkljnaaDsO
namespace Go.Proofs.Ytjncnojplkljnaa
open Go.RowKit

set_option maxHeartbeats 8000000 in
set_option maxRecDepth 100000 in
theorem bytes_long (k r c q : Int) (w : World) (len dep : Int) (ro : Option Addr) (n rc : Nat) (lo : Option Addr) (m lc : Nat) (hn : 500 < n ∨ 500 < m) :
    Calls Try.prog 4 #[.agg #[.int .i64 k, .int .i64 r, .int .i64 c, .int .i64 q], .agg #[.int .i64 len, .int .i64 dep, .slice ro n rc], .slice lo m lc] w fun e w' => e = .returned (.bool true) ∧ Below w.heap.size w w' := by
  obtain ⟨w0, hw0⟩ : ∃ w0, w0 = w.alloc (.cells #[.int .i64 k, .int .i64 r, .int .i64 c, .int .i64 q] 24) := ⟨_, rfl⟩
  obtain ⟨w1, hw1⟩ : ∃ w1, w1 = w0.alloc (.cells #[.int .i64 len, .int .i64 dep, .slice ro n rc] 35) := ⟨_, rfl⟩
  have b0 : Below w.heap.size w w0 := by rw [hw0]; exact below_alloc _ _
  have b1 : Below w0.heap.size w0 w1 := by rw [hw1]; exact below_alloc _ _
  have z0 : w0.heap.size = w.heap.size + 1 := by rw [hw0]; simp
  have HBB : Hid (Below w.heap.size w w1) := below_then b0 b1
  have HP1 : Hid (∀ u, Below w1.heap.size w1 u → (u.cell? ⟨w.heap.size, 0, none⟩ = some (.int .i64 k) ∧ u.cell? ⟨w.heap.size, 1, none⟩ = some (.int .i64 r) ∧ u.cell? ⟨w.heap.size, 2, none⟩ = some (.int .i64 c) ∧ u.cell? ⟨w.heap.size, 3, none⟩ = some (.int .i64 q)) ∧ u.cell? ⟨w.heap.size + 1, 0, none⟩ = some (.int .i64 len) ∧ u.cell? ⟨w.heap.size + 1, 1, none⟩ = some (.int .i64 dep) ∧ u.cell? ⟨w.heap.size + 1, 2, none⟩ = some (.slice ro n rc)) := fun u hu => ⟨par_held hw0 (below_then b1 hu), by rw [← z0]; exact ⟨blk_held hw1 hu 0 rfl, blk_held hw1 hu 1 rfl, blk_held hw1 hu 2 rfl⟩⟩
  by_cases h1 : 500 < n
  · clear hn
    go_enter Try.func4, Try.ntmps4
    go_wp2_with fail
    rw [← hw0, ← hw1]
    clear hw0 hw1 z0 b0 b1
    refine (alive_any _).mono ?_
    rintro e wa ⟨rfl, ha⟩
    have HA : Hid (Below w1.heap.size w1 wa) := ha
    clear ha
    obtain ⟨⟨p0, p1, p2, p3⟩, d0, d1, d2⟩ := HP1.out _ HA.out
    go_wp2_with fail
    go_ret
    exact ⟨rfl, below_then HBB.out HA.out⟩
  · have h2 : 500 < m := by omega
    clear hn
    go_enter Try.func4, Try.ntmps4
    go_wp2_with fail
    rw [← hw0, ← hw1]
    clear hw0 hw1 z0 b0 b1
    refine (alive_any _).mono ?_
    rintro e wa ⟨rfl, ha⟩
    have HA : Hid (Below w1.heap.size w1 wa) := ha
    clear ha
    obtain ⟨⟨p0, p1, p2, p3⟩, d0, d1, d2⟩ := HP1.out _ HA.out
    go_wp2_with fail
    go_ret
    exact ⟨rfl, below_then HBB.out HA.out⟩
theorem lenE_le (E : Int) (n : Nat) : lenE E n ≤ n := by unfold lenE; split <;> omega
theorem Only.own {X : Nat → Prop} {B : Nat} {w w' : World} {ao : Option Addr} {n cap : Nat} {F : Nat → UInt8} (h : OwU B w ao n cap F) (ho : Only X w w') (hx : ∀ t, X t → t < B) : OwU B w' ao n cap F := h.stay fun g hg hg2 => ho.block g hg2 fun hX => by have := hx g hX; omega
theorem blk_own {B : Nat} {w : World} {ao : Option Addr} {n cap : Nat} {F : Nat → UInt8} (h : OwU B w ao n cap F) : ∀ t, BlkOf ao t → B ≤ t ∧ t < w.heap.size := by
  rintro t ⟨a, rfl, rfl⟩
  exact World.ownsRow.lt h a.block rfl
set_option maxHeartbeats 16000000 in
set_option maxRecDepth 100000 in
theorem bytes_main {k r c q : Int} {N W : Nat} {y : Int} (h : Par k r c q N W y) (w : World) (len dep : Int) (ro : Option Addr) (n rc : Nat) (R V : Nat → Int) (hR : Rec w ro n rc R V) (lo : Option Addr) (m lc : Nat) (R' V' : Nat → Int) (hL : Rec w lo m lc R' V') (hn : n ≤ 500) (hm : m ≤ 500) :
    Calls Try.prog 4 #[.agg #[.int .i64 k, .int .i64 r, .int .i64 c, .int .i64 q], .agg #[.int .i64 len, .int .i64 dep, .slice ro n rc], .slice lo m lc] w fun e w' => e = .returned (.bool true) ∧ Below w.heap.size w w' := by
  obtain ⟨E1, hE1⟩ : ∃ E, erD y W q len dep n R V = E := ⟨_, rfl⟩
  obtain ⟨E2, hE2⟩ : ∃ E, erL y W q m R' V' = E := ⟨_, rfl⟩
  obtain ⟨F1, hF1⟩ : ∃ E, E = E1 := ⟨_, rfl⟩
  obtain ⟨F2, hF2⟩ : ∃ E, E = E2 := ⟨_, rfl⟩
  obtain ⟨E3, hE3⟩ : ∃ E, E = E1 := ⟨_, rfl⟩
  have q1 : (E1 == F1) = true := by rw [hF1]; simp
  have q2 : (E2 == F2) = true := by rw [hF2]; simp
  have q3 : (E3 == F1) = true := by rw [hE3, hF1]; simp
  have hW := h.wide
  have CB := fun v ro rc hv => Bytes_any h v len dep ro n rc R V hv E1 hE1
  have CB3 := fun v ro rc hv => Bytes_any h v len dep ro n rc R V hv E3 (by rw [hE3]; exact hE1)
  have CL := fun v lo lc hv => DLeaf_any h v lo m lc R' V' hv E2 hE2
  have RB := fun v hv => RBytes_any h v len dep ro n rc R V hv F1 (by rw [hF1]; exact hE1)
  have RL := fun v hv => RLeaf_any h v lo m lc R' V' hv F2 (by rw [hF2]; exact hE2)
  have CC := fun v ro rc hv => DCheck_any h v len dep ro n rc R V hv
  rw [hE1] at CC
  have RC := fun v hv => RDCheck_any h v len dep ro n rc R V hv
  rw [hE1, ← hF1] at RC
  unfold AnsB at CB CB3 CL RB RL
  obtain ⟨a1, ha1⟩ : ∃ a, lenE E1 W = a := ⟨_, rfl⟩
  obtain ⟨a2, ha2⟩ : ∃ a, lenE E2 W = a := ⟨_, rfl⟩
  obtain ⟨a3, ha3⟩ : ∃ a, lenE F1 W = a := ⟨_, rfl⟩
  obtain ⟨a4, ha4⟩ : ∃ a, lenE F2 W = a := ⟨_, rfl⟩
  obtain ⟨a5, ha5⟩ : ∃ a, lenE E3 W = a := ⟨_, rfl⟩
  rw [ha1] at CB
  rw [ha2] at CL
  rw [ha3] at RB
  rw [ha4] at RL
  rw [ha5] at CB3
  have l1 : a1 ≤ 768 := by have := lenE_le E1 W; omega
  have l2 : a2 ≤ 768 := by have := lenE_le E2 W; omega
  obtain ⟨G1, hG1⟩ : ∃ G, deB len dep n R V = G := ⟨_, rfl⟩
  obtain ⟨G2, hG2⟩ : ∃ G, lfB m R' V' = G := ⟨_, rfl⟩
  rw [hG1] at CB CB3 RB
  rw [hG2] at CL RL
  obtain ⟨SX, hSX⟩ : ∃ S, S = sOf (lsF a1 G1) := ⟨_, rfl⟩
  obtain ⟨SY, hSY⟩ : ∃ S, S = sOf (lsF a2 G2) := ⟨_, rfl⟩
  have V1 : Hid (∀ v bo bc, Bec v bo a1 bc G1 → (convert 29 9 (.slice bo a1 bc)).run Try.prog v = .ok (.string SX) v) := fun v bo bc hv => by rw [hSX]; exact conv_any hv
  have V3 : Hid (∀ v bo bc, Bec v bo a3 bc G1 → (convert 29 9 (.slice bo a3 bc)).run Try.prog v = .ok (.string SX) v) := fun v bo bc hv => by rw [hSX, show a1 = a3 by rw [← ha1, ← ha3, hF1]]; exact conv_any hv
  have V5 : Hid (∀ v bo bc, Bec v bo a5 bc G1 → (convert 29 9 (.slice bo a5 bc)).run Try.prog v = .ok (.string SX) v) := fun v bo bc hv => by rw [hSX, show a1 = a5 by rw [← ha1, ← ha5, hE3]]; exact conv_any hv
  have V2 : Hid (∀ v bo bc, Bec v bo a2 bc G2 → (convert 29 9 (.slice bo a2 bc)).run Try.prog v = .ok (.string SY) v) := fun v bo bc hv => by rw [hSY]; exact conv_any hv
  have V4 : Hid (∀ v bo bc, Bec v bo a4 bc G2 → (convert 29 9 (.slice bo a4 bc)).run Try.prog v = .ok (.string SY) v) := fun v bo bc hv => by rw [hSY, show a2 = a4 by rw [← ha2, ← ha4, hF2]]; exact conv_any hv
  have HR : Hid (Rec w ro n rc R V) := hR
  have HL : Hid (Rec w lo m lc R' V') := hL
  clear h hR hL hE1 hE2 hF1 hF2 hE3 ha1 ha2 ha3 ha4 ha5 hG1 hG2 hSX hSY hW
  obtain ⟨w0, hw0⟩ : ∃ w0, w0 = w.alloc (.cells #[.int .i64 k, .int .i64 r, .int .i64 c, .int .i64 q] 24) := ⟨_, rfl⟩
  obtain ⟨w1, hw1⟩ : ∃ w1, w1 = w0.alloc (.cells #[.int .i64 len, .int .i64 dep, .slice ro n rc] 35) := ⟨_, rfl⟩
  have b0 : Below w.heap.size w w0 := by rw [hw0]; exact below_alloc _ _
  have b1 : Below w0.heap.size w0 w1 := by rw [hw1]; exact below_alloc _ _
  have z0 : w0.heap.size = w.heap.size + 1 := by rw [hw0]; simp
  have HBB : Hid (Below w.heap.size w w1) := below_then b0 b1
  have HP1 : Hid (∀ u, Below w1.heap.size w1 u → (u.cell? ⟨w.heap.size, 0, none⟩ = some (.int .i64 k) ∧ u.cell? ⟨w.heap.size, 1, none⟩ = some (.int .i64 r) ∧ u.cell? ⟨w.heap.size, 2, none⟩ = some (.int .i64 c) ∧ u.cell? ⟨w.heap.size, 3, none⟩ = some (.int .i64 q)) ∧ u.cell? ⟨w.heap.size + 1, 0, none⟩ = some (.int .i64 len) ∧ u.cell? ⟨w.heap.size + 1, 1, none⟩ = some (.int .i64 dep) ∧ u.cell? ⟨w.heap.size + 1, 2, none⟩ = some (.slice ro n rc)) := fun u hu => ⟨par_held hw0 (below_then b1 hu), by rw [← z0]; exact ⟨blk_held hw1 hu 0 rfl, blk_held hw1 hu 1 rfl, blk_held hw1 hu 2 rfl⟩⟩
  go_enter Try.func4, Try.ntmps4
  go_wp2_with fail
  rw [← hw0, ← hw1]
  clear hw0 hw1 z0 b0 b1
  refine (alive_any _).mono ?_
  rintro e wa ⟨rfl, ha⟩
  have HA : Hid (Below w1.heap.size w1 wa) := ha
  clear ha
  obtain ⟨⟨p0, p1, p2, p3⟩, d0, d1, d2⟩ := HP1.out _ HA.out
  have HRA : Hid (Rec wa ro n rc R V) := HR.out.below (below_then HBB.out HA.out)
  obtain ⟨wx, hwx⟩ : ∃ wx, wx = wa.alloc (.cells #[.int .i64 len, .int .i64 dep, .slice ro n rc] 35) := ⟨_, rfl⟩
  have bx : Below wa.heap.size wa wx := by rw [hwx]; exact below_alloc _ _
  have zx : wx.heap.size = wa.heap.size + 1 := by rw [hwx]; simp
  have D2 := fun o => held d2 (below_alloc wa o)
  go_wp2_with fail
  rw [← hwx]
  refine (lent_any wx ro n rc R V (HRA.out.below bx) hn).mono ?_
  rintro e wb ⟨gx, cx, rfl, hgx, hb⟩
  have x0 := blk_held hwx hb 0 rfl
  have x1 := blk_held hwx hb 1 rfl
  have x2 := blk_held hwx hb 2 rfl
  have xf := blk_free hwx hb
  obtain ⟨wc, hwc⟩ : ∃ wc, wc = wb.setCell ⟨wa.heap.size, 2, none⟩ (.slice (some ⟨gx, 0, none⟩) n cx) := ⟨_, rfl⟩
  have hgx2 : wx.heap.size ≤ gx := by have := World.ownsRow.lt hgx gx rfl; exact this.1
  have HX3 : Hid (wc.cell? ⟨wa.heap.size, 0, none⟩ = some (.int .i64 len) ∧ wc.cell? ⟨wa.heap.size, 1, none⟩ = some (.int .i64 dep) ∧ wc.cell? ⟨wa.heap.size, 2, none⟩ = some (.slice (some ⟨gx, 0, none⟩) n cx)) := by
    rw [hwc]
    exact ⟨(World.cell?_setCell_other wb _ _ _ (by intro e; cases e)).trans x0, (World.cell?_setCell_other wb _ _ _ (by intro e; cases e)).trans x1, World.cell?_setCell_same wb _ _ x2⟩
  have HLX : Hid (Lent wx.heap.size wc gx n cx R V) := by
    show OwR _ _ _ _ _ _ _
    refine OwR.stay hgx fun t ht _ => ?_
    rw [hwc]
    exact heap_setCell_other _ _ _ _ (by show t ≠ wa.heap.size; omega)
  have HAC : Hid (Below w1.heap.size w1 wc) := by
    rw [hwc]
    exact (below_then HA.out (below_then bx hb)).setCell HA.out.size _
  clear hgx hb bx zx D2 hgx2 p0 p1 p2 p3 d0 d1 d2
  go_wp2_with fail
  rw [← hwc]
  clear hwx hwc x0 x1 x2 xf
  refine (lent_any wc lo m lc R' V' (HL.out.below (below_then HBB.out HAC.out)) hm).mono ?_
  rintro e wd ⟨gy, cy, rfl, hgy, hd⟩
  have HLY : Hid (Lent wc.heap.size wd gy m cy R' V') := hgy
  have HCD : Hid (Below wc.heap.size wc wd) := hd
  have HAD : Hid (Below w1.heap.size w1 wd) := below_then HAC.out hd
  have HP : Hid (∀ u, Below wd.heap.size wd u → (u.cell? ⟨w.heap.size, 0, none⟩ = some (.int .i64 k) ∧ u.cell? ⟨w.heap.size, 1, none⟩ = some (.int .i64 r) ∧ u.cell? ⟨w.heap.size, 2, none⟩ = some (.int .i64 c) ∧ u.cell? ⟨w.heap.size, 3, none⟩ = some (.int .i64 q)) ∧ (u.cell? ⟨w.heap.size + 1, 0, none⟩ = some (.int .i64 len) ∧ u.cell? ⟨w.heap.size + 1, 1, none⟩ = some (.int .i64 dep) ∧ u.cell? ⟨w.heap.size + 1, 2, none⟩ = some (.slice ro n rc)) ∧ u.cell? ⟨wa.heap.size, 0, none⟩ = some (.int .i64 len) ∧ u.cell? ⟨wa.heap.size, 1, none⟩ = some (.int .i64 dep) ∧ u.cell? ⟨wa.heap.size, 2, none⟩ = some (.slice (some ⟨gx, 0, none⟩) n cx)) := fun u hu => by
    obtain ⟨h1, h2⟩ := HP1.out u (below_then HAD.out hu)
    have h3 := below_then HCD.out hu
    exact ⟨h1, h2, held HX3.out.1 h3, held HX3.out.2.1 h3, held HX3.out.2.2 h3⟩
  have HQ : Hid (∀ u, Below wd.heap.size wd u → Rec u ro n rc R V ∧ Rec u lo m lc R' V' ∧ Lent wx.heap.size u gx n cx R V ∧ Lent wc.heap.size u gy m cy R' V') := fun u hu => ⟨HR.out.below (below_then HBB.out (below_then HAD.out hu)), HL.out.below (below_then HBB.out (below_then HAD.out hu)), HLX.out.below (below_then HCD.out hu), HLY.out.below hu⟩
  clear hgy hd
  obtain ⟨⟨p0, p1, p2, p3⟩, ⟨d0, d1, d2⟩, x0, x1, x2⟩ := HP.out _ (Below.refl _ _)
  go_wp2_with fail
  refine (CB _ _ _ (HQ.out _ (Below.refl _ _)).2.2.1.rec).mono ?_
  rintro e we ⟨bo, bc, rfl, hob, he⟩
  have HB : Hid (OwU wd.heap.size we bo a1 bc G1) := hob
  have HDE : Hid (Below wd.heap.size wd we) := he
  clear hob he p0 p1 p2 p3 d0 d1 d2 x0 x1 x2
  obtain ⟨⟨p0, p1, p2, p3⟩, ⟨d0, d1, d2⟩, x0, x1, x2⟩ := HP.out _ HDE.out
  go_wp2_with fail
  refine (CL _ _ _ (HQ.out _ HDE.out).2.2.2.rec).mono ?_
  rintro e wf ⟨co, cc, rfl, hoc, hf⟩
  have HC : Hid (OwU we.heap.size wf co a2 cc G2) := hoc
  have HEF : Hid (Below we.heap.size we wf) := hf
  have HDF : Hid (Below wd.heap.size wd wf) := below_then HDE.out hf
  clear hoc hf p0 p1 p2 p3 d0 d1 d2 x0 x1 x2
  obtain ⟨⟨p0, p1, p2, p3⟩, ⟨d0, d1, d2⟩, x0, x1, x2⟩ := HP.out _ HDF.out
  go_wp2_with fail
  refine (RB _ (HQ.out _ HDF.out).1).mono ?_
  rintro e wg ⟨bo2, bc2, rfl, hob2, hg⟩
  have HB2 : Hid (OwU wf.heap.size wg bo2 a3 bc2 G1) := hob2
  have HFG : Hid (Below wf.heap.size wf wg) := hg
  have HDG : Hid (Below wd.heap.size wd wg) := below_then HDF.out hg
  clear hob2 hg p0 p1 p2 p3 d0 d1 d2 x0 x1 x2
  obtain ⟨⟨p0, p1, p2, p3⟩, ⟨d0, d1, d2⟩, x0, x1, x2⟩ := HP.out _ HDG.out
  go_wp2_with fail
  refine (RL _ (HQ.out _ HDG.out).2.1).mono ?_
  rintro e wh ⟨co2, cc2, rfl, hoc2, hh⟩
  have HC2 : Hid (OwU wg.heap.size wh co2 a4 cc2 G2) := hoc2
  have HGH : Hid (Below wg.heap.size wg wh) := hh
  have HDH : Hid (Below wd.heap.size wd wh) := below_then HDG.out hh
  clear hoc2 hh p0 p1 p2 p3 d0 d1 d2 x0 x1 x2
  have HS : Hid (∀ v, Below wh.heap.size wh v → (v.cell? ⟨w.heap.size, 0, none⟩ = some (.int .i64 k) ∧ v.cell? ⟨w.heap.size, 1, none⟩ = some (.int .i64 r) ∧ v.cell? ⟨w.heap.size, 2, none⟩ = some (.int .i64 c) ∧ v.cell? ⟨w.heap.size, 3, none⟩ = some (.int .i64 q)) ∧ (v.cell? ⟨w.heap.size + 1, 0, none⟩ = some (.int .i64 len) ∧ v.cell? ⟨w.heap.size + 1, 1, none⟩ = some (.int .i64 dep) ∧ v.cell? ⟨w.heap.size + 1, 2, none⟩ = some (.slice ro n rc)) ∧ (v.cell? ⟨wa.heap.size, 0, none⟩ = some (.int .i64 len) ∧ v.cell? ⟨wa.heap.size, 1, none⟩ = some (.int .i64 dep) ∧ v.cell? ⟨wa.heap.size, 2, none⟩ = some (.slice (some ⟨gx, 0, none⟩) n cx)) ∧ (convert 29 9 (.slice bo a1 bc)).run Try.prog v = .ok (.string SX) v ∧ (convert 29 9 (.slice bo2 a3 bc2)).run Try.prog v = .ok (.string SX) v ∧ (convert 29 9 (.slice co a2 cc)).run Try.prog v = .ok (.string SY) v ∧ (convert 29 9 (.slice co2 a4 cc2)).run Try.prog v = .ok (.string SY) v) := fun v hv => by
    obtain ⟨h1, h2, h3⟩ := HP.out v (below_then HDH.out hv)
    exact ⟨h1, h2, h3, V1.out _ _ _ (HB.out.below (below_then (below_then (below_then HEF.out HFG.out) HGH.out) hv)).bec, V3.out _ _ _ (HB2.out.below (below_then HGH.out hv)).bec, V2.out _ _ _ (HC.out.below (below_then (below_then HFG.out HGH.out) hv)).bec, V4.out _ _ _ (HC2.out.below hv).bec⟩
  have HHD : Hid (Below wh.heap.size wh wh.drew) := below_drew _ _
  obtain ⟨⟨p0, p1, p2, p3⟩, ⟨d0, d1, d2⟩, ⟨x0, x1, x2⟩, _, _, _, _⟩ := HS.out _ (Below.refl _ _)
  obtain ⟨_, _, _, v1, v2, v3, v4⟩ := HS.out _ HHD.out
  go_wp2_with fail
  go_region_held3 (fun v => (v.cell? ⟨w.heap.size, 0, none⟩ = some (.int .i64 k) ∧ v.cell? ⟨w.heap.size, 1, none⟩ = some (.int .i64 r) ∧ v.cell? ⟨w.heap.size, 2, none⟩ = some (.int .i64 c) ∧ v.cell? ⟨w.heap.size, 3, none⟩ = some (.int .i64 q)) ∧ (v.cell? ⟨w.heap.size + 1, 0, none⟩ = some (.int .i64 len) ∧ v.cell? ⟨w.heap.size + 1, 1, none⟩ = some (.int .i64 dep) ∧ v.cell? ⟨w.heap.size + 1, 2, none⟩ = some (.slice ro n rc)) ∧ (v.cell? ⟨wa.heap.size, 0, none⟩ = some (.int .i64 len) ∧ v.cell? ⟨wa.heap.size, 1, none⟩ = some (.int .i64 dep) ∧ v.cell? ⟨wa.heap.size, 2, none⟩ = some (.slice (some ⟨gx, 0, none⟩) n cx)) ∧ (convert 29 9 (.slice bo a1 bc)).run Try.prog v = .ok (.string SX) v ∧ (convert 29 9 (.slice bo2 a3 bc2)).run Try.prog v = .ok (.string SX) v ∧ (convert 29 9 (.slice co a2 cc)).run Try.prog v = .ok (.string SY) v ∧ (convert 29 9 (.slice co2 a4 cc2)).run Try.prog v = .ok (.string SY) v) (go_keep)
    ((first
      | (go_at_call 12; refine (CC _ _ _ (HQ.out _ (below_then HDH.out HHD.out)).2.2.1.rec.rd).mono ?_; rintro e wi ⟨rfl, hi⟩; have HHI : Hid (Below wh.heap.size wh wi) := below_then HHD.out hi; obtain ⟨⟨s0, s1, s2, s3⟩, ⟨t0, t1, t2⟩, ⟨y0, y1, y2⟩, u1, u2, u3, u4⟩ := HS.out _ HHI.out; clear hi)
      | (go_at_call 19; refine (RC _ (HQ.out _ (below_then HDH.out HHI.out)).1.rd).mono ?_; rintro e wj ⟨rfl, hj⟩; have HHJ : Hid (Below wh.heap.size wh wj) := below_then HHI.out hj; obtain ⟨⟨s4, s5, s6, s7⟩, ⟨t4, t5, t6⟩, ⟨y4, y5, y6⟩, u5, u6, u7, u8⟩ := HS.out _ HHJ.out; clear hj)))
  have HDJ : Hid (Below wd.heap.size wd wj) := below_then HDH.out HHJ.out
  have B2J : Hid (OwU wf.heap.size wj bo2 a3 bc2 G1) := HB2.out.below (below_then HGH.out HHJ.out)
  have CJ : Hid (OwU we.heap.size wj co a2 cc G2) := HC.out.below (below_then (below_then HFG.out HGH.out) HHJ.out)
  have BJ : Hid (OwU wd.heap.size wj bo a1 bc G1) := HB.out.below (below_then (below_then (below_then HEF.out HFG.out) HGH.out) HHJ.out)
  have HBT : Hid (∀ t, BlkOf bo t → wd.heap.size ≤ t ∧ t < we.heap.size) := blk_own HB.out
  have HCT : Hid (∀ t, BlkOf co t → we.heap.size ≤ t ∧ t < wf.heap.size) := blk_own HC.out
  have HZZ : Hid (wd.heap.size ≤ we.heap.size ∧ we.heap.size ≤ wf.heap.size) := ⟨HDE.out.size, HEF.out.size⟩
  clear s0 s1 s2 s3 t0 t1 t2 y0 y1 y2 u1 u2 u3 u4 s4 s5 s6 s7 t4 t5 t6 y4 y5 y6 u5 u6 u7 u8 v1 v2 v3 v4 p0 p1 p2 p3 d0 d1 d2 x0 x1 x2
  clear HS HHD HHI HHJ HB HB2 HC HC2 CC RC RB RL CB CL HGH HFG HEF HDE HDF HDG HDH
  go_wp2_with fail
  refine (spoil_any wj wd.heap.size bo a1 bc G1 BJ.out (by omega)).mono ?_
  rintro e wk ⟨rfl, hk⟩
  have HDK : Hid (Below wd.heap.size wd wk) := HDJ.out.trans (hk.below (fun t ht => (HBT.out t ht).1) HDJ.out.size)
  have B2K : Hid (OwU wf.heap.size wk bo2 a3 bc2 G1) := Only.own B2J.out hk (fun t ht => Nat.lt_of_lt_of_le (HBT.out t ht).2 HZZ.out.2)
  have CK : Hid (OwU we.heap.size wk co a2 cc G2) := Only.own CJ.out hk (fun t ht => (HBT.out t ht).2)
  clear hk
  go_wp2_with fail
  refine (spoil_any wk we.heap.size co a2 cc G2 CK.out (by omega)).mono ?_
  rintro e wl ⟨rfl, hl⟩
  have HDL : Hid (Below wd.heap.size wd wl) := HDK.out.trans (hl.below (fun t ht => Nat.le_trans HZZ.out.1 (HCT.out t ht).1) HDK.out.size)
  have B2L : Hid (OwU wf.heap.size wl bo2 a3 bc2 G1) := Only.own B2K.out hl (fun t ht => (HCT.out t ht).2)
  clear hl
  obtain ⟨⟨p0, p1, p2, p3⟩, ⟨d0, d1, d2⟩, x0, x1, x2⟩ := HP.out _ HDL.out
  go_wp2_with fail
  refine (CB3 _ _ _ (HQ.out _ HDL.out).2.2.1.rec).mono ?_
  rintro e wm ⟨ao, ac, rfl, hoa, hm2⟩
  have HDM : Hid (Below wd.heap.size wd wm) := below_then HDL.out hm2
  have v1 := V5.out _ _ _ hoa.bec
  have v2 := V3.out _ _ _ (B2L.out.below hm2).bec
  clear hoa hm2 p0 p1 p2 p3 d0 d1 d2 x0 x1 x2
  obtain ⟨⟨p0, p1, p2, p3⟩, ⟨d0, d1, d2⟩, x0, x1, x2⟩ := HP.out _ HDM.out
  go_wp2_with fail
  refine (kept_any wm _ gx n cx ro rc R V (HQ.out _ HDM.out).2.2.1 (HQ.out _ HDM.out).1.rd hn).mono ?_
  rintro e wn ⟨rfl, hn2⟩
  have HDN : Hid (Below wd.heap.size wd wn) := below_then HDM.out hn2
  clear hn2
  go_wp2_with fail
  refine (kept_any wn _ gy m cy lo lc R' V' (HQ.out _ HDN.out).2.2.2 (HQ.out _ HDN.out).2.1.rd hm).mono ?_
  rintro e wo ⟨rfl, ho2⟩
  have HDO : Hid (Below wd.heap.size wd wo) := below_then HDN.out ho2
  clear ho2
  go_wp2_with fail
  go_ret
  exact ⟨rfl, below_then HBB.out (below_then HAD.out HDO.out)⟩
theorem bytes_law (k r c q : Int) (w : World) (len dep : Int) (ro : Option Addr) (n rc : Nat) (R V : Nat → Int) (hR : Rec w ro n rc R V) (lo : Option Addr) (m lc : Nat) (R' V' : Nat → Int) (hL : Rec w lo m lc R' V') :
    Calls Try.prog 4 #[.agg #[.int .i64 k, .int .i64 r, .int .i64 c, .int .i64 q], .agg #[.int .i64 len, .int .i64 dep, .slice ro n rc], .slice lo m lc] w fun e w' => e = .returned (.bool true) ∧ Below w.heap.size w w' := by
  by_cases hl : 500 < n ∨ 500 < m
  · exact bytes_long k r c q w len dep ro n rc lo m lc hl
  · obtain ⟨N, W, y, h⟩ := par_any k r c q
    exact bytes_main h w len dep ro n rc R V hR lo m lc R' V' hL (by omega) (by omega)
end Go.Proofs.Ytjncnojplkljnaa
