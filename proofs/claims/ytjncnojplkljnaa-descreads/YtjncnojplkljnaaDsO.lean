/- The fixed answers that each statement asks first. -/
import Derived.Test.YtjncnojplkljnaaDsK
import Derived.Test.YtjncnojplkljnaaDsM
import Derived.Test.YtjncnojplkljnaaDsN
namespace Go.Proofs.Ytjncnojplkljnaa
open Go.RowKit

def aR (i : Nat) : Int := if i = 0 then 3 else 1
def aV (i : Nat) : Int := if i = 0 then 5 else 6
def aF : Nat → UInt8 := deB 70 0 2 aR aV
def aL : Nat → UInt8 := lfB 1 aR aV
theorem a_okD : okD 64 32 70 0 2 aR aV = true := by decide +kernel
theorem a_erD : erD 0 64 32 70 0 2 aR aV = 0 := by unfold erD; rw [if_pos rfl, if_pos a_okD]
theorem a_back : isD 64 32 aF = true ∧ ((nm aF 0 4 : Nat) : Int) = 70 ∧ ((nm aF 4 1 : Nat) : Int) = 0 ∧ nm aF 5 2 = 2 ∧ ∀ i, i < 2 → rdR aF 7 i = aR i ∧ rdV aF 7 i = aV i := desc_back (W := 64) (by decide) (by decide) (by decide) a_okD (fun _ _ => rfl)
theorem a_erB : erB 0 64 32 64 aF = 0 := by unfold erB; rw [if_pos rfl, if_pos rfl, if_pos a_back.1]
theorem a_okL : okL 32 1 aR aV = true := by decide +kernel
theorem a_erL : erL 0 64 32 1 aR aV = 0 := by unfold erL; rw [if_pos rfl, if_neg (by decide), if_pos a_okL]
theorem a_leaf : isL 64 32 1 aL = true ∧ ∀ i, i < 1 → rdR aL 0 i = aR i ∧ rdV aL 0 i = aV i := leaf_back (W := 64) (q := 32) (by decide) (by decide) a_okL (fun _ _ => rfl)
theorem a_erR1 : erR 0 64 32 64 1 aL = 0 := by unfold erR; rw [if_pos rfl, if_pos rfl, if_neg (by decide), if_pos (show isL 64 32 (1 : Int).toNat aL = true from a_leaf.1)]
theorem a_erR2 : erR 0 64 32 64 2 aL = 150 := by unfold erR; rw [if_pos rfl, if_pos rfl, if_neg (by decide), if_neg (by decide +kernel)]
theorem a_erD2 (R V : Nat → Int) : erD 0 64 32 70 0 0 R V = 150 := by
  unfold erD okD
  rw [if_pos rfl, if_neg]
  intro h
  have h2 := (of_decide_eq_true h).2.2.2.1
  revert h2
  decide +kernel
theorem a_cells : (aF 3).toNat = 70 ∧ (aF 6).toNat = 2 ∧ (aF 8).toNat = 3 ∧ (aF 12).toNat = 5 ∧ (aF 14).toNat = 1 ∧ (aF 18).toNat = 6 ∧ (aF 19).toNat = 0 ∧ (aL 1).toNat = 3 := by decide +kernel
theorem blkA {v wh : World} {x0 x1 x2 : Value} {t : TypeId} {o : Obj} (hh : Below ((v.alloc (.cells #[x0, x1, x2] t)).alloc o).heap.size ((v.alloc (.cells #[x0, x1, x2] t)).alloc o) wh) : (wh.cell? ⟨v.heap.size, 0, none⟩ = some x0 ∧ wh.cell? ⟨v.heap.size, 1, none⟩ = some x1 ∧ wh.cell? ⟨v.heap.size, 2, none⟩ = some x2) ∧ ∀ i, wh.frozen? ⟨v.heap.size, i, none⟩ = false :=
  have k := below_then (below_alloc (v.alloc (.cells #[x0, x1, x2] t)) o) hh
  ⟨⟨blk_held rfl k 0 rfl, blk_held rfl k 1 rfl, blk_held rfl k 2 rfl⟩, blk_free rfl k⟩
theorem blkB {v wh : World} {x0 x1 x2 : Value} {t : TypeId} {o : Obj} (hh : Below ((v.alloc o).alloc (.cells #[x0, x1, x2] t)).heap.size ((v.alloc o).alloc (.cells #[x0, x1, x2] t)) wh) : (wh.cell? ⟨v.heap.size + 1, 0, none⟩ = some x0 ∧ wh.cell? ⟨v.heap.size + 1, 1, none⟩ = some x1 ∧ wh.cell? ⟨v.heap.size + 1, 2, none⟩ = some x2) ∧ ∀ i, wh.frozen? ⟨v.heap.size + 1, i, none⟩ = false := by
  have e : (v.alloc o).heap.size = v.heap.size + 1 := by simp
  rw [← e]
  exact ⟨⟨blk_held rfl hh 0 rfl, blk_held rfl hh 1 rfl, blk_held rfl hh 2 rfl⟩, blk_free rfl hh⟩
set_option maxHeartbeats 8000000 in
set_option maxRecDepth 100000 in
theorem alive_any (w : World) : Calls Try.prog 9 #[] w fun e w' => e = .returned (.bool true) ∧ Below w.heap.size w w' := by
  have CB := fun v ro rc hv => Bytes_any par_sample v 70 0 ro 2 rc aR aV hv 0 a_erD
  have CP := fun v bo bc hv => Parse_any par_sample v bo 64 bc aF hv 0 a_erB
  rw [a_back.2.1, a_back.2.2.1, a_back.2.2.2.1] at CP
  have CL := fun v ro rc hv => DLeaf_any par_sample v ro 1 rc aR aV hv 0 a_erL
  have CR1 := fun v bo bc hv => Refs_any par_sample v bo 64 bc aL hv 1 0 a_erR1
  have CR2 := fun v bo bc hv => Refs_any par_sample v bo 64 bc aL hv 2 150 a_erR2
  have CP2 := fun v bo bc => Parse_no par_sample v bo 63 bc 20 (by decide) (by decide) 0 0 0 (fun _ => 0) (fun _ => 0)
  have CC := fun v => DCheck_any par_sample v 70 0 none 0 0 aR aV (fun h => absurd h (Nat.lt_irrefl 0))
  rw [a_erD2] at CC
  obtain ⟨f3, f6, f8, f12, f14, f18, f19, l1⟩ := a_cells
  have HFX : Hid (aF = deB 70 0 2 aR aV ∧ aL = lfB 1 aR aV) := ⟨rfl, rfl⟩
  rw [← HFX.out.1] at CB
  rw [← HFX.out.2] at CL
  unfold AnsB at CB CL
  unfold AnsD at CP CP2
  unfold AnsR at CR1 CR2
  simp only [lenE_zero, lenI_zero] at CB CP CL CR1
  rw [lenE_not (by decide)] at CR2
  simp only [lenE_not (show (20 : Int) ≠ 0 by decide), lenI_not (show (20 : Int) ≠ 0 by decide)] at CP2
  go_enter Try.func9, Try.ntmps9
  go_wp2_with fail
  refine (sample_any _).mono ?_
  rintro e wa ⟨rfl, ha⟩
  go_wp2_with fail
  obtain ⟨u1, hu1⟩ : ∃ u1, u1 = wa.alloc (.cells #[.int .i64 4, .int .i64 2, .int .i64 16, .int .i64 32] 24) := ⟨_, rfl⟩
  obtain ⟨u2, hu2⟩ : ∃ u2, u2 = u1.alloc (.cells #[.int .i64 3, .int .i64 5, .int .i64 1, .int .i64 6] 27) := ⟨_, rfl⟩
  obtain ⟨u, hu⟩ : ∃ u, u = u2.alloc (.cells #[.int .i64 70, .int .i64 0, .slice (some ⟨wa.heap.size + 1, 0, none⟩) 2 2] 35) := ⟨_, rfl⟩
  rw [← hu1, ← hu2, ← hu]
  have c1 : Below wa.heap.size wa u1 := by rw [hu1]; exact below_alloc _ _
  have c2 : Below u1.heap.size u1 u2 := by rw [hu2]; exact below_alloc _ _
  have c3 : Below u2.heap.size u2 u := by rw [hu]; exact below_alloc _ _
  have z1 : u1.heap.size = wa.heap.size + 1 := by rw [hu1]; simp
  have z2 : u2.heap.size = wa.heap.size + 1 + 1 := by rw [hu2]; simp [z1]
  have HK : Hid (Below w.heap.size w u) := below_then (below_then (below_then ha c1) c2) c3
  have HP : Hid (∀ v, Below u.heap.size u v → v.cell? ⟨wa.heap.size, 0, none⟩ = some (.int .i64 4) ∧ v.cell? ⟨wa.heap.size, 1, none⟩ = some (.int .i64 2) ∧ v.cell? ⟨wa.heap.size, 2, none⟩ = some (.int .i64 16) ∧ v.cell? ⟨wa.heap.size, 3, none⟩ = some (.int .i64 32)) := fun v hv => par_held hu1 (below_then (below_then c2 c3) hv)
  have HD : Hid (∀ v, Below u.heap.size u v → v.cell? ⟨wa.heap.size + 1 + 1, 0, none⟩ = some (.int .i64 70) ∧ v.cell? ⟨wa.heap.size + 1 + 1, 1, none⟩ = some (.int .i64 0) ∧ v.cell? ⟨wa.heap.size + 1 + 1, 2, none⟩ = some (.slice (some ⟨wa.heap.size + 1, 0, none⟩) 2 2)) := fun v hv => by rw [← z2]; exact ⟨blk_held hu hv 0 rfl, blk_held hu hv 1 rfl, blk_held hu hv 2 rfl⟩
  have HR : Hid (∀ v, Below u.heap.size u v → (v.cell? ⟨wa.heap.size + 1, 0, none⟩ = some (.int .i64 3) ∧ v.cell? ⟨wa.heap.size + 1, 1, none⟩ = some (.int .i64 5)) ∧ v.cell? ⟨wa.heap.size + 1, 2, none⟩ = some (.int .i64 1) ∧ v.cell? ⟨wa.heap.size + 1, 3, none⟩ = some (.int .i64 6)) := fun v hv => by rw [← z1]; exact ⟨⟨blk_held hu2 (below_then c3 hv) 0 rfl, blk_held hu2 (below_then c3 hv) 1 rfl⟩, blk_held hu2 (below_then c3 hv) 2 rfl, blk_held hu2 (below_then c3 hv) 3 rfl⟩
  have HRR : Hid (∀ v, Below u.heap.size u v → RdR v (some ⟨wa.heap.size + 1, 0, none⟩) 2 aR aV) := fun v hv _ => ⟨_, _, rfl, fun i hi => by
    obtain ⟨⟨r0, r1⟩, r2, r3⟩ := HR.out v hv
    rcases (show i = 0 ∨ i = 1 by omega) with rfl | rfl
    · exact ⟨r0, r1⟩
    · exact ⟨r2, r3⟩⟩
  have HR1 : Hid (∀ v, Below u.heap.size u v → Rec v (some ⟨wa.heap.size + 1, 0, none⟩) 1 2 aR aV) := fun v hv => ⟨fun _ => by
    obtain ⟨b, off, e, hc⟩ := HRR.out v hv (by omega)
    exact ⟨b, off, e, fun i hi => hc i (by omega)⟩, (fun e => by cases e), by omega⟩
  clear hu1 hu2 hu c1 c2 c3 z1 z2 ha
  generalize wa.heap.size = pb at *
  refine (CB u _ _ ⟨HRR.out u (Below.refl _ _), (fun e => by cases e), Nat.le_refl _⟩).mono ?_
  rintro e wb ⟨bo, bc, rfl, hob, hb⟩
  obtain ⟨gb, rfl, _, _⟩ := hob.at_ (by omega)
  have HOB : Hid (OwU u.heap.size wb (some ⟨gb, 0, none⟩) 64 bc aF) := hob
  have HBB : Hid (Below u.heap.size u wb) := hb
  obtain ⟨p0, p1, p2, p3⟩ := HP.out wb hb
  clear hob hb CB
  go_wp2_with fail
  refine (CP wb _ _ HOB.out.bec).mono ?_
  rintro e wc ⟨xo, xc, rfl, hox, hc⟩
  obtain ⟨wd, hwd⟩ : ∃ wd, wd = wc.alloc (.cells #[.int .i64 70, .int .i64 0, .slice xo 2 xc] 35) := ⟨_, rfl⟩
  have bd : Below wc.heap.size wc wd := by rw [hwd]; exact below_alloc _ _
  have HOX : Hid (RdR wd xo 2 aR aV) := ((hox.below bd).congr a_back.2.2.2.2).rec.rd
  have HBD : Hid (Below wb.heap.size wb wd) := below_then hc bd
  have HXC : Hid (∀ v, Below wd.heap.size wd v → v.cell? ⟨wc.heap.size, 0, none⟩ = some (.int .i64 70) ∧ v.cell? ⟨wc.heap.size, 1, none⟩ = some (.int .i64 0) ∧ v.cell? ⟨wc.heap.size, 2, none⟩ = some (.slice xo 2 xc)) := fun v hv => ⟨blk_held hwd hv 0 rfl, blk_held hwd hv 1 rfl, blk_held hwd hv 2 rfl⟩
  clear hox hc bd CP p0 p1 p2 p3
  go_wp2_with fail
  rw [← hwd]
  clear hwd
  have HBU : Hid (Below u.heap.size u wd) := below_then HBB.out HBD.out
  obtain ⟨p0, p1, p2, p3⟩ := HP.out wd HBU.out
  obtain ⟨d0, d1, d2⟩ := HD.out wd HBU.out
  have HT : Hid (∀ v, Below wd.drew.heap.size wd.drew v → Below u.heap.size u v) := fun v hv => below_then HBU.out (of_drew hv)
  have CL' := CL wd.drew (some ⟨pb + 1, 0, none⟩) 2 (HR1.out _ (HT.out _ (Below.refl _ _)))
  go_region_held3 (fun v => (v.cell? ⟨pb, 0, none⟩ = some (.int .i64 4) ∧ v.cell? ⟨pb, 1, none⟩ = some (.int .i64 2) ∧ v.cell? ⟨pb, 2, none⟩ = some (.int .i64 16) ∧ v.cell? ⟨pb, 3, none⟩ = some (.int .i64 32)) ∧ v.cell? ⟨pb + 1 + 1, 2, none⟩ = some (.slice (some ⟨pb + 1, 0, none⟩) 2 2)) (go_keep)
    ((go_at_call 11; refine CL'.mono ?_; rintro e we ⟨lo, lc, rfl, hol, hl⟩; obtain ⟨q0, q1, q2, q3⟩ := HP.out _ (HT.out _ hl); obtain ⟨e0, e1, e2⟩ := HD.out _ (HT.out _ hl)))
  obtain ⟨gl, rfl, _, _⟩ := hol.at_ (by omega)
  have HOL : Hid (OwU wd.drew.heap.size we (some ⟨gl, 0, none⟩) 64 lc aL) := hol
  have HBE : Hid (Below wd.heap.size wd we) := of_drew hl
  have HUE : Hid (Below u.heap.size u we) := HT.out _ hl
  clear hol hl CL CL' e0 e1 e2 d0 d1 d2 p0 p1 p2 p3
  go_wp2_with fail
  refine (CR1 we _ _ HOL.out.bec).mono ?_
  rintro e wf ⟨ro, rc, rfl, hor, hf⟩
  have hor2 : RdR wf ro 1 aR aV := (hor.congr a_leaf.2).rec.rd
  obtain ⟨rb, roff, rfl, hrc⟩ := hor2 (by omega)
  have HOR : Hid (wf.cell? ⟨rb, roff, none⟩ = some (.int .i64 3) ∧ wf.cell? ⟨rb, roff + 1, none⟩ = some (.int .i64 5)) := hrc 0 (by omega)
  clear hor2 hrc
  have HUF : Hid (Below u.heap.size u wf) := below_then HUE.out hf
  have HEF : Hid (Below we.heap.size we wf) := hf
  clear hor hf CR1 q0 q1 q2 q3
  obtain ⟨p0, p1, p2, p3⟩ := HP.out wf HUF.out
  go_wp2_with fail
  refine (CR2 wf _ _ (HOL.out.below HEF.out).bec).mono ?_
  rintro e wg ⟨ro2, rc2, rfl, _, hg⟩
  have HUG : Hid (Below u.heap.size u wg) := below_then HUF.out hg
  have HFG : Hid (Below wf.heap.size wf wg) := hg
  clear hg CR2 p0 p1 p2 p3
  obtain ⟨p0, p1, p2, p3⟩ := HP.out wg HUG.out
  have HS0 : Hid (∀ v, Below wg.heap.size wg v → ((v.cell? ⟨gb, 3, none⟩ = some (.int .u8 70) ∧ v.cell? ⟨gb, 6, none⟩ = some (.int .u8 2) ∧ v.cell? ⟨gb, 8, none⟩ = some (.int .u8 3) ∧ v.cell? ⟨gb, 12, none⟩ = some (.int .u8 5) ∧ v.cell? ⟨gb, 14, none⟩ = some (.int .u8 1) ∧ v.cell? ⟨gb, 18, none⟩ = some (.int .u8 6) ∧ v.cell? ⟨gb, 19, none⟩ = some (.int .u8 0)) ∧ (v.cell? ⟨wc.heap.size, 0, none⟩ = some (.int .i64 70) ∧ v.cell? ⟨wc.heap.size, 1, none⟩ = some (.int .i64 0) ∧ v.cell? ⟨wc.heap.size, 2, none⟩ = some (.slice xo 2 xc)) ∧ (v.cell? ⟨pb + 1 + 1, 0, none⟩ = some (.int .i64 70) ∧ v.cell? ⟨pb + 1 + 1, 1, none⟩ = some (.int .i64 0) ∧ v.cell? ⟨pb + 1 + 1, 2, none⟩ = some (.slice (some ⟨pb + 1, 0, none⟩) 2 2)) ∧ (v.cell? ⟨pb + 1, 0, none⟩ = some (.int .i64 3) ∧ v.cell? ⟨pb + 1, 1, none⟩ = some (.int .i64 5)) ∧ (v.cell? ⟨rb, roff, none⟩ = some (.int .i64 3) ∧ v.cell? ⟨rb, roff + 1, none⟩ = some (.int .i64 5)) ∧ v.cell? ⟨gl, 1, none⟩ = some (.int .u8 3) ∧ (v.cell? ⟨pb, 0, none⟩ = some (.int .i64 4) ∧ v.cell? ⟨pb, 1, none⟩ = some (.int .i64 2) ∧ v.cell? ⟨pb, 2, none⟩ = some (.int .i64 16) ∧ v.cell? ⟨pb, 3, none⟩ = some (.int .i64 32)))) := fun v hv => by
    have k1 := below_then (below_then (below_then (below_then HBD.out HBE.out) HEF.out) HFG.out) hv
    have k2 := below_then (below_then (below_then HBE.out HEF.out) HFG.out) hv
    have k3 := below_then (below_then HEF.out HFG.out) hv
    have k4 := below_then HFG.out hv
    have k5 := below_then HUG.out hv
    have fb : ∀ i, i < 64 → v.cell? ⟨gb, i, none⟩ = some (.int .u8 (((aF i).toNat : Nat) : Int)) := fun i hi => (HOB.out.below k1).cell hi
    have fl := (HOL.out.below k3).cell (i := 1) (by omega)
    obtain ⟨g3, g6, g8, g12, g14, g18, g19, gl1⟩ := a_cells
    have b3 := fb 3 (by omega)
    have b6 := fb 6 (by omega)
    have b8 := fb 8 (by omega)
    have b12 := fb 12 (by omega)
    have b14 := fb 14 (by omega)
    have b18 := fb 18 (by omega)
    have b19 := fb 19 (by omega)
    rw [g3] at b3
    rw [g6] at b6
    rw [g8] at b8
    rw [g12] at b12
    rw [g14] at b14
    rw [g18] at b18
    rw [g19] at b19
    rw [gl1] at fl
    exact ⟨⟨b3, b6, b8, b12, b14, b18, b19⟩, HXC.out v k2, HD.out v k5, (HR.out v k5).1, ⟨held HOR.out.1 k4, held HOR.out.2 k4⟩, fl, HP.out v k5⟩
  have HSR : Hid (∀ v, Below wg.heap.size wg v → RdR v xo 2 aR aV ∧ RdR v (some ⟨pb + 1, 0, none⟩) 2 aR aV) := fun v hv => ⟨HOX.out.below (below_then (below_then (below_then HBE.out HEF.out) HFG.out) hv), HRR.out v (below_then HUG.out hv)⟩
  clear f3 f6 f8 f12 f14 f18 f19 l1
  obtain ⟨Z, hmk⟩ : ∃ Z, ∀ w, (Instr.makeSlice 29 (.int .i64 63) (.int .i64 63)).run Try.prog w = .ok (.slice (some ⟨w.heap.size, 0, none⟩) 63 63) (w.alloc (.cells Z 5)) := ⟨_, run_make_row' (P := Try.prog) 29 5 (.int .u8 0) 1 Try.underlying29 info5 rfl .i64 .i64 63 (by decide) (by decide)⟩
  have HA1 : Hid (∀ o, Below u.heap.size u (wg.drew.alloc o)) := fun o => below_then HUG.out (of_drew (below_alloc _ _))
  have HA2 : Hid (∀ o o', Below u.heap.size u ((wg.drew.alloc o).alloc o')) := fun o o' => below_then (HA1.out o) (below_alloc _ _)
  have k0 := fun o => (HP.out _ (HA1.out o)).1
  have k1 := fun o => (HP.out _ (HA1.out o)).2.1
  have k2 := fun o => (HP.out _ (HA1.out o)).2.2.1
  have k3 := fun o => (HP.out _ (HA1.out o)).2.2.2
  have j0 := fun o o' => (HP.out _ (HA2.out o o')).1
  have j1 := fun o o' => (HP.out _ (HA2.out o o')).2.1
  have j2 := fun o o' => (HP.out _ (HA2.out o o')).2.2.1
  have j3 := fun o o' => (HP.out _ (HA2.out o o')).2.2.2
  have n1 : ¬ pb = wg.heap.size := by have := World.block_lt_of_cell? wg _ p0; intro e; exact Nat.lt_irrefl _ (e ▸ this)
  have n2 : ¬ wg.heap.size = pb := fun e => n1 e.symm
  have n3 : ¬ pb = wg.heap.size + 1 := by have := World.block_lt_of_cell? wg _ p0; intro e; have : pb < wg.heap.size := this; omega
  have n4 : ¬ wg.heap.size + 1 = pb := fun e => n3 e.symm
  go_wp2_with fail
  go_region_held3 (fun v => v.cell? ⟨pb, 0, none⟩ = some (.int .i64 4) ∧ v.cell? ⟨pb, 1, none⟩ = some (.int .i64 2) ∧ v.cell? ⟨pb, 2, none⟩ = some (.int .i64 16) ∧ v.cell? ⟨pb, 3, none⟩ = some (.int .i64 32)) (go_keep)
    ((go_at_call 15; refine (CP2 _ _ _).mono ?_; rintro e wh ⟨xo2, xc2, rfl, _, hh⟩; have HUH : Hid (Below u.heap.size u wh) := (by first | exact below_then (HA1.out _) hh | exact below_then (HA2.out _ _) hh); have HGH : Hid (Below wg.heap.size wg wh) := (by first | exact below_then (below_then (below_drew _ _) (below_alloc _ _)) hh | exact below_then (below_then (below_then (below_drew _ _) (below_alloc _ _)) (below_alloc _ _)) hh | exact below_then (below_then (below_alloc _ _) (below_drew _ _)) hh | exact below_then (below_then (below_then (below_alloc _ _) (below_alloc _ _)) (below_drew _ _)) hh); obtain ⟨q0, q1, q2, q3⟩ := HP.out _ HUH.out; have q4 := fun o => (HP.out _ (below_then HUH.out (below_alloc wh o))).1; have q5 := fun o => (HP.out _ (below_then HUH.out (below_alloc wh o))).2.1; have q6 := fun o => (HP.out _ (below_then HUH.out (below_alloc wh o))).2.2.1; have q7 := fun o => (HP.out _ (below_then HUH.out (below_alloc wh o))).2.2.2; (first | (have hq := blkA (of_drew hh); have y0 : wh.cell? ⟨wg.heap.size, 0, none⟩ = some (.int .i64 0) := hq.1.1; have y1 : wh.cell? ⟨wg.heap.size, 1, none⟩ = some (.int .i64 0) := hq.1.2.1; have y2 : wh.cell? ⟨wg.heap.size, 2, none⟩ = some (.slice none 0 0) := hq.1.2.2; have y3 : ∀ i, wh.frozen? ⟨wg.heap.size, i, none⟩ = false := hq.2; clear hq) | (have hq := blkB (of_drew hh); have y0 : wh.cell? ⟨wg.heap.size + 1, 0, none⟩ = some (.int .i64 0) := hq.1.1; have y1 : wh.cell? ⟨wg.heap.size + 1, 1, none⟩ = some (.int .i64 0) := hq.1.2.1; have y2 : wh.cell? ⟨wg.heap.size + 1, 2, none⟩ = some (.slice none 0 0) := hq.1.2.2; have y3 : ∀ i, wh.frozen? ⟨wg.heap.size + 1, i, none⟩ = false := hq.2; clear hq) | skip); clear hh))
  all_goals (
    clear q0 q1 q2 q3 q4 q5 q6 q7
    go_wp2_with fail
    first
      | (obtain ⟨wz, hwz, HZ⟩ : ∃ wz, wz = wh.alloc (.cells #[.int .i64 0, .int .i64 0, .slice xo2 0 xc2] 35) ∧ Hid (Below wg.heap.size wg wz) := ⟨_, rfl, below_then HGH.out (below_alloc _ _)⟩; rw [← hwz]; clear hwz)
      | (obtain ⟨wz, hwz, HZ⟩ : ∃ wz, wz = ((wh.setCell ⟨wg.heap.size, 0, none⟩ (.int .i64 0)).setCell ⟨wg.heap.size, 1, none⟩ (.int .i64 0)).setCell ⟨wg.heap.size, 2, none⟩ (.slice xo2 0 xc2) ∧ Hid (Below wg.heap.size wg wz) := ⟨_, rfl, ((HGH.out.setCell (Nat.le_refl _) _).setCell (Nat.le_refl _) _).setCell (Nat.le_refl _) _⟩; rw [← hwz]; clear hwz)
      | (obtain ⟨wz, hwz, HZ⟩ : ∃ wz, wz = ((wh.setCell ⟨wg.heap.size + 1, 0, none⟩ (.int .i64 0)).setCell ⟨wg.heap.size + 1, 1, none⟩ (.int .i64 0)).setCell ⟨wg.heap.size + 1, 2, none⟩ (.slice xo2 0 xc2) ∧ Hid (Below wg.heap.size wg wz) := ⟨_, rfl, ((HGH.out.setCell (Nat.le_succ _) _).setCell (Nat.le_succ _) _).setCell (Nat.le_succ _) _⟩; rw [← hwz]; clear hwz)
    have HZD : Hid (Below wg.heap.size wg wz.drew) := below_then HZ.out (below_drew _ _)
    obtain ⟨⟨ab0, ab1, ab2, ab3, ab4, ab5, ab6⟩, ⟨ax0, ax1, ax2⟩, ⟨ad0, ad1, ad2⟩, ⟨ar0, ar1⟩, ⟨as0, as1⟩, al1, ⟨ap0, ap1, ap2, ap3⟩⟩ := HS0.out _ HZ.out
    have CS := Same_any wz.drew 70 0 xo 2 xc (some ⟨pb + 1, 0, none⟩) 2 aR aV (HSR.out _ HZD.out).1 (HSR.out _ HZD.out).2 (by omega)
    dsimp only [List.append]
    clear HGH p0 p1 p2 p3 k0 k1 k2 k3 j0 j1 j2 j3 n1 n2 n3 n4 hmk CP2
    go_region_held3 (fun v => ((v.cell? ⟨gb, 3, none⟩ = some (.int .u8 70) ∧ v.cell? ⟨gb, 6, none⟩ = some (.int .u8 2) ∧ v.cell? ⟨gb, 8, none⟩ = some (.int .u8 3) ∧ v.cell? ⟨gb, 12, none⟩ = some (.int .u8 5) ∧ v.cell? ⟨gb, 14, none⟩ = some (.int .u8 1) ∧ v.cell? ⟨gb, 18, none⟩ = some (.int .u8 6) ∧ v.cell? ⟨gb, 19, none⟩ = some (.int .u8 0)) ∧ (v.cell? ⟨wc.heap.size, 0, none⟩ = some (.int .i64 70) ∧ v.cell? ⟨wc.heap.size, 1, none⟩ = some (.int .i64 0) ∧ v.cell? ⟨wc.heap.size, 2, none⟩ = some (.slice xo 2 xc)) ∧ (v.cell? ⟨pb + 1 + 1, 0, none⟩ = some (.int .i64 70) ∧ v.cell? ⟨pb + 1 + 1, 1, none⟩ = some (.int .i64 0) ∧ v.cell? ⟨pb + 1 + 1, 2, none⟩ = some (.slice (some ⟨pb + 1, 0, none⟩) 2 2)) ∧ (v.cell? ⟨pb + 1, 0, none⟩ = some (.int .i64 3) ∧ v.cell? ⟨pb + 1, 1, none⟩ = some (.int .i64 5)) ∧ (v.cell? ⟨rb, roff, none⟩ = some (.int .i64 3) ∧ v.cell? ⟨rb, roff + 1, none⟩ = some (.int .i64 5)) ∧ v.cell? ⟨gl, 1, none⟩ = some (.int .u8 3) ∧ (v.cell? ⟨pb, 0, none⟩ = some (.int .i64 4) ∧ v.cell? ⟨pb, 1, none⟩ = some (.int .i64 2) ∧ v.cell? ⟨pb, 2, none⟩ = some (.int .i64 16) ∧ v.cell? ⟨pb, 3, none⟩ = some (.int .i64 32)))) (go_keep)
      ((first
        | (go_at_call 24; refine CS.mono ?_; rintro e wi ⟨rfl, hi⟩; have HZI : Hid (Below wg.heap.size wg wi) := below_then HZD.out hi; obtain ⟨⟨ib0, ib1, ib2, ib3, ib4, ib5, ib6⟩, ⟨ix0, ix1, ix2⟩, ⟨id0, id1, id2⟩, ⟨ir0, ir1⟩, ⟨is0, is1⟩, il1, ⟨ip0, ip1, ip2, ip3⟩⟩ := HS0.out _ HZI.out; clear hi)
        | (go_at_call 12; refine (CC _).mono ?_; rintro e wj ⟨rfl, hj⟩; have HZJ : Hid (Below wg.heap.size wg wj) := below_then HZI.out hj; obtain ⟨⟨jb0, jb1, jb2, jb3, jb4, jb5, jb6⟩, ⟨jx0, jx1, jx2⟩, ⟨jd0, jd1, jd2⟩, ⟨jr0, jr1⟩, ⟨js0, js1⟩, jl1, ⟨jp0, jp1, jp2, jp3⟩⟩ := HS0.out _ HZJ.out; clear hj)))
    all_goals (
      go_wp2
      go_ret
      exact ⟨rfl, below_then (below_then HK.out HUG.out) HZJ.out⟩))
end Go.Proofs.Ytjncnojplkljnaa
