/- Some answers that the document fixes. -/
import Derived.Test.YtenlfhdchflnjaaImgO
namespace Go.Proofs.Ytenlfhdchflnjaa
open Go.RowKit

theorem pm0 : Pm 2 1 16 8 3 8 40 := ⟨by decide, by decide, by decide, by decide⟩
theorem ck0 {F : Nat → List UInt8} (h : Fit 48 40 F) : Ck 2 1 16 8 48 F 0 3 8 40 := .inl ⟨rfl, pm0, rfl, h⟩
theorem fit0 : Fit 48 40 (fun _ => []) := fun _ _ => .inl rfl
/-- The raw write of 40 bytes to the drive 1, the row 2, the slot 0. -/
def xp (c : UInt8) : Pt := ⟨1, 2, 0, List.replicate 40 c⟩
theorem tak_xp (c : UInt8) : takB 3 8 40 (xp c) = true := by unfold takB xp hasB; simp
theorem plc_xp (c : UInt8) : plc 8 (xp c).d (xp c).r (xp c).s = 20 := rfl
def f1 : Nat → List UInt8 := upd 20 (List.replicate 40 1) fun _ => []
def f2 : Nat → List UInt8 := upd 20 (List.replicate 40 2) (upd 20 (List.replicate 40 1) fun _ => [])
theorem f1_ne {i : Nat} (h : i ≠ 20) : f1 i = [] := upd_ne _ _ h
theorem f2_ne {i : Nat} (h : i ≠ 20) : f2 i = [] := (upd_ne _ _ h).trans (upd_ne _ _ h)
theorem f1_at : f1 20 = List.replicate 40 1 := upd_at _ _ _
theorem f2_at : f2 20 = List.replicate 40 2 := upd_at _ _ _
theorem fit1 : Fit 48 40 f1 := fun i _ => by
  by_cases h : i = 20
  · subst h; rw [f1_at]; exact .inr (by simp)
  · rw [f1_ne h]; exact .inl rfl
theorem fit2 : Fit 48 40 f2 := fun i _ => by
  by_cases h : i = 20
  · subst h; rw [f2_at]; exact .inr (by simp)
  · rw [f2_ne h]; exact .inl rfl
theorem al_blank : Bln 2 1 16 8 0 2 1 16 8 48 := .inr ⟨rfl, rfl, rfl, rfl, rfl, 3, 8, 40, pm0, rfl⟩
theorem al_put : Aft 2 1 16 8 48 (fun _ => []) (fun _ => xp 1) 1 1 0 2 1 16 8 48 f1 := ⟨0, 3, 8, 40, ck0 fit0, .inl ⟨rfl, by decide, fun _ _ => tak_xp 1, by decide, by decide, rfl, rfl, rfl, rfl, rfl, rfl, rfl⟩⟩
def d2 (j : Nat) : Pt := if j = 0 then xp 1 else xp 2
theorem al_after : Aft 2 1 16 8 48 (fun _ => []) d2 2 2 0 2 1 16 8 48 f2 := ⟨0, 3, 8, 40, ck0 fit0, .inl ⟨rfl, by decide, fun i _ => by unfold d2; split; exact tak_xp 1; exact tak_xp 2, by decide, by decide, rfl, rfl, rfl, rfl, rfl, rfl, rfl⟩⟩
theorem al_row : Rww 2 1 16 8 48 f1 2 0 3 (rowF 8 2 f1) := ⟨0, 3, 8, 40, ck0 fit1, .inl ⟨rfl, by decide, by decide, rfl, rfl, rfl⟩⟩
theorem dfs_f2 : ∀ i, dfs 8 (fun _ => []) f2 i = if i ≤ 20 then [] else [xp 2]
  | 0 => rfl
  | i + 1 => by
    have ih := dfs_f2 i
    by_cases h : i = 20
    · subst h
      rw [dfs_new (by rw [f2_at]; decide), ih, if_pos (by omega), if_neg (by omega), f2_at]
      rfl
    · rw [dfs_same (by rw [f2_ne h]), ih]
      by_cases g : i ≤ 20
      · rw [if_pos g, if_pos (by omega)]
      · rw [if_neg g, if_neg (by omega)]
theorem al_diff : Dff 2 1 16 8 48 (fun _ => []) 2 1 16 8 48 f2 0 1 (fun j => [xp 2].getD j p0) := by
  have e : dfs 8 (fun _ => []) f2 48 = [xp 2] := (dfs_f2 48).trans (if_neg (by omega))
  refine ⟨0, 3, 8, 40, 0, 3, 8, 40, ck0 fit0, ck0 fit2, .inl ⟨rfl, rfl, ⟨rfl, rfl, rfl, rfl⟩, fun i _ h => fun h2 => h h2.symm, rfl, by rw [e]; rfl, by rw [e]⟩⟩
theorem al_undiff : Dff 2 1 16 8 48 f1 2 1 16 8 48 (fun _ => []) 90 0 (fun _ => p0) :=
  ⟨0, 3, 8, 40, 0, 3, 8, 40, ck0 fit1, ck0 fit0, .inr ⟨⟨rfl, rfl⟩, .inr (.inr (.inr ⟨rfl, rfl, ⟨rfl, rfl, rfl, rfl⟩, ⟨20, by omega, by rw [f1_at]; decide, rfl⟩, rfl⟩))⟩⟩
theorem al_wiped : Wip 2 1 16 8 48 f1 1 0 2 1 16 8 48 (wpF 8 1 f1) := ⟨0, 3, 8, 40, ck0 fit1, .inl ⟨rfl, by decide, by decide, rfl, rfl, rfl, rfl, rfl, rfl, rfl⟩⟩
theorem al_same : Sme 2 1 16 8 48 (wpF 8 1 f1) 2 1 16 8 48 (fun _ => []) true := .inl ⟨rfl, rfl, rfl, rfl, rfl, rfl, fun i _ => by
  unfold wpF
  split
  · rfl
  · rename_i h; exact f1_ne (fun e => h (by subst e; rfl))⟩
theorem al_unsame : Sme 2 1 16 8 48 f1 2 1 16 8 48 (fun _ => []) false := .inr ⟨rfl, fun h => absurd (h.2.2.2.2.2 20 (by omega)) (by rw [f1_at]; decide)⟩
theorem mts_two : mts (fun _ => xp 1) 2 = [2] := by
  obtain ⟨h1, h2⟩ := mts_spec (fun _ => xp 1) 2
  refine inc_unique _ _ h1 (by simp [Inc]) fun x => ?_
  rw [h2]
  constructor
  · rintro ⟨_, _, e⟩; simp [← e, xp]
  · intro h; exact ⟨0, by omega, by have : x = 2 := by simpa using h
                                    rw [this]; rfl⟩
theorem al_rows : Rws (fun _ => xp 1) 2 0 [2] := .inl ⟨by decide, rfl, mts_two.symm⟩
set_option maxHeartbeats 400000 in
theorem sample_any (w : World) : Calls Try.prog 11 #[] w fun e w' => e = .returned (.agg #[.int .i64 2, .int .i64 1, .int .i64 16, .int .i64 8]) ∧ Below w.heap.size w w' := by
  go_enter Try.func11, Try.ntmps11
  go_wp2_with fail
  refine bodyPost_ret (v := .agg #[.int .i64 2, .int .i64 1, .int .i64 16, .int .i64 8]) (by simp [results, Try.results11, go_sem]) rfl ?_
  exact ⟨rfl, below_alloc _ _⟩
def fil (c : UInt8) (i j : Nat) : Value := .int .u8 (if j < i then (c.toNat : Int) else 0)
set_option maxHeartbeats 1000000 in
set_option maxRecDepth 100000 in
theorem full_any (c : UInt8) (w : World) : Calls Try.prog 38 #[.int .u8 (c.toNat : Int)] w fun e w' => ∃ g, e = .returned (.slice (some ⟨g, 0, none⟩) 40 40) ∧ RdB w' (some ⟨g, 0, none⟩) (List.replicate 40 c) ∧ Below w.heap.size w w' := by
  have hmk := run_make_row' (P := Try.prog) 33 5 (.int .u8 0) 1 Try.underlying33 info5 rfl .i64 .i64 40 (by omega) (by omega) w
  obtain ⟨wz, hwz⟩ : ∃ wz, wz = w.alloc (.cells (madeCells #[.int .u8 0] 40) 5) := ⟨_, rfl⟩
  have HBZ : Hid (Below w.heap.size w wz) := by rw [hwz]; exact below_alloc _ _
  have HR0 : Hid (wz.rowIs w.heap.size 5 40 (fil c 0)) := by
    rw [hwz]
    exact (World.rowIs_made w (.int .u8 0) 40 5).congr fun i _ => by unfold fil; rw [if_neg (Nat.not_lt_zero i)]
  rw [← hwz] at hmk
  have hmk : (Instr.makeSlice 33 (.int .i64 40) (.int .i64 40)).run Try.prog w = .ok (.slice (some ⟨w.heap.size, 0, none⟩) 40 40) wz := hmk
  obtain ⟨cv, hcv⟩ : ∃ cv : Int, cv = (c.toNat : Int) := ⟨_, rfl⟩
  have HCV : Hid (cv = (c.toNat : Int)) := hcv
  rw [← hcv]
  clear hwz hcv
  go_enter Try.func38, Try.ntmps38
  go_wp2_with fail
  go_loopw [4] (fun y wr => ∃ i : Nat, i ≤ 40 ∧ y = .int .i64 i ∧ Hid (wr.rowIs w.heap.size 5 40 (fil c i)) ∧ Hid (Below w.heap.size w wr)) (fun y _ => 40 - (intOf y).toNat)
  case atStart => exact ⟨0, Nat.zero_le _, rfl, HR0.out, HBZ.out⟩
  case round =>
    obtain ⟨i, hi, rfl, hr, hb⟩ := hrel
    by_cases hlt : i < 40
    · have cc := hr.out.cell hlt
      have cf := hr.out.frozen i
      have i1 : (0 : Int) ≤ (i : Int) := by omega
      have i2 : (i : Int) < 40 := by omega
      go_wp2_with fail
      go_roundw
      case rel =>
        refine ⟨i + 1, by omega, by go_num, ?_, hb.out.setCell (Nat.le_refl _) _⟩
        refine (hr.out.set i (.int .u8 cv)).congr fun j _ => ?_
        unfold fil
        by_cases e : j = i
        · subst e; rw [if_pos rfl, if_pos (by omega), HCV.out]
        · rw [if_neg e]
          by_cases g : j < i
          · rw [if_pos g, if_pos (by omega)]
          · rw [if_neg g, if_neg (by omega)]
      case measure => simp [intOf]; omega
    · obtain rfl : i = 40 := by omega
      go_wp2_with fail
      go_ret
      refine ⟨w.heap.size, rfl, fun _ => ⟨w.heap.size, 0, rfl, fun j hj => ?_⟩, hb.out⟩
      have hj2 : j < 40 := by simpa using hj
      rw [Nat.zero_add, hr.out.cell hj2]
      unfold fil
      rw [if_pos hj2, List.getElem_replicate]
set_option maxHeartbeats 4000000 in
set_option maxRecDepth 100000 in
theorem alive_any (w : World) : Calls Try.prog 9 #[] w fun e w' => e = .returned (.bool true) ∧ Below w.heap.size w w' := by
  have bb_w : Hid (Below w.heap.size w w) := Below.refl _ _
  have HSA := sample_any w
  go_enter Try.func9, Try.ntmps9
  go_wp2_with fail
  refine HSA.mono ?_
  rintro e wa ⟨rfl, ha⟩
  have hst_wa : Hid (Below w.heap.size w wa) := ha
  replace bb_w : Hid (Below w.heap.size w wa) := below_then bb_w.out hst_wa.out
  clear ha HSA
  have HBL := Blank_img al_blank wa
  go_wp2_with fail
  refine HBL.mono ?_
  rintro e wb ⟨lom, Am, Cm, rfl, him, hb⟩
  have HIM : Hid (Im wa.heap.size wb lom 48 Am Cm (fun _ => [])) := him
  have hst_wb : Hid (Below wa.heap.size wa wb) := hb
  replace bb_w : Hid (Below w.heap.size w wb) := below_then bb_w.out hst_wb.out
  have bb_wb : Hid (Below wb.heap.size wb wb) := Below.refl _ _
  clear hb HBL him
  go_wp2_with fail
  obtain ⟨wc, hw_wc⟩ : ∃ wc, wc = wb.alloc (.cells #[.int .i64 2, .int .i64 1, .int .i64 16, .int .i64 8, .slice lom 48 48] 27) := ⟨_, rfl⟩
  rw [← hw_wc]
  have hst_wc : Hid (Below wb.heap.size wb wc) := by rw [hw_wc]; exact below_alloc _ _
  replace bb_w : Hid (Below w.heap.size w wc) := below_then bb_w.out hst_wc.out
  replace bb_wb : Hid (Below wb.heap.size wb wc) := below_then bb_wb.out hst_wc.out
  have hz_wc : wb.heap.size < wc.heap.size := by rw [hw_wc]; simp
  have bb_wc : Hid (Below wc.heap.size wc wc) := Below.refl _ _
  have ch_m : Hid (∀ v, Below wc.heap.size wc v → v.cell? ⟨wb.heap.size, 0, none⟩ = some (.int .i64 2) ∧ v.cell? ⟨wb.heap.size, 1, none⟩ = some (.int .i64 1) ∧ v.cell? ⟨wb.heap.size, 2, none⟩ = some (.int .i64 16) ∧ v.cell? ⟨wb.heap.size, 3, none⟩ = some (.int .i64 8) ∧ v.cell? ⟨wb.heap.size, 4, none⟩ = some (.slice lom 48 48)) := fun v hv => ⟨blk_held hw_wc hv 0 rfl, blk_held hw_wc hv 1 rfl, blk_held hw_wc hv 2 rfl, blk_held hw_wc hv 3 rfl, blk_held hw_wc hv 4 rfl⟩
  clear hw_wc
  refine (full_any 1 wc).mono ?_
  rintro e wd ⟨g1, rfl, hr1, hd⟩
  have HR1 : Hid (RdB wd (some ⟨g1, 0, none⟩) (xp 1).b) := hr1
  have hst_wd : Hid (Below wc.heap.size wc wd) := hd
  replace bb_w : Hid (Below w.heap.size w wd) := below_then bb_w.out hst_wd.out
  replace bb_wb : Hid (Below wb.heap.size wb wd) := below_then bb_wb.out hst_wd.out
  replace bb_wc : Hid (Below wc.heap.size wc wd) := below_then bb_wc.out hst_wd.out
  have bb_wd : Hid (Below wd.heap.size wd wd) := Below.refl _ _
  clear hd hr1
  go_wp2_with fail
  obtain ⟨we, hw_we⟩ : ∃ we, we = wd.alloc (.cells #[.int .i64 1, .int .i64 2, .int .i64 0, .slice (some ⟨g1, 0, none⟩) 40 40] 35) := ⟨_, rfl⟩
  rw [← hw_we]
  have hst_we : Hid (Below wd.heap.size wd we) := by rw [hw_we]; exact below_alloc _ _
  replace bb_w : Hid (Below w.heap.size w we) := below_then bb_w.out hst_we.out
  replace bb_wb : Hid (Below wb.heap.size wb we) := below_then bb_wb.out hst_we.out
  replace bb_wc : Hid (Below wc.heap.size wc we) := below_then bb_wc.out hst_we.out
  replace bb_wd : Hid (Below wd.heap.size wd we) := below_then bb_wd.out hst_we.out
  have hz_we : wd.heap.size < we.heap.size := by rw [hw_we]; simp
  have bb_we : Hid (Below we.heap.size we we) := Below.refl _ _
  have ch_x : Hid (∀ v, Below we.heap.size we v → v.cell? ⟨wd.heap.size, 0, none⟩ = some (.int .i64 1) ∧ v.cell? ⟨wd.heap.size, 1, none⟩ = some (.int .i64 2) ∧ v.cell? ⟨wd.heap.size, 2, none⟩ = some (.int .i64 0) ∧ v.cell? ⟨wd.heap.size, 3, none⟩ = some (.slice (some ⟨g1, 0, none⟩) 40 40)) := fun v hv => ⟨blk_held hw_we hv 0 rfl, blk_held hw_we hv 1 rfl, blk_held hw_we hv 2 rfl, blk_held hw_we hv 3 rfl⟩
  clear hw_we
  refine (full_any 2 we).mono ?_
  rintro e wf ⟨g2, rfl, hr2, hf⟩
  have HR2 : Hid (RdB wf (some ⟨g2, 0, none⟩) (xp 2).b) := hr2
  have hst_wf : Hid (Below we.heap.size we wf) := hf
  replace bb_w : Hid (Below w.heap.size w wf) := below_then bb_w.out hst_wf.out
  replace bb_wb : Hid (Below wb.heap.size wb wf) := below_then bb_wb.out hst_wf.out
  replace bb_wc : Hid (Below wc.heap.size wc wf) := below_then bb_wc.out hst_wf.out
  replace bb_wd : Hid (Below wd.heap.size wd wf) := below_then bb_wd.out hst_wf.out
  replace bb_we : Hid (Below we.heap.size we wf) := below_then bb_we.out hst_wf.out
  have bb_wf : Hid (Below wf.heap.size wf wf) := Below.refl _ _
  clear hf hr2
  obtain ⟨rd_m0, rd_m1, rd_m2, rd_m3, rd_m4⟩ := ch_m.out wf bb_wc.out
  have ra_m0 := fun o => held rd_m0 (below_alloc wf o)
  have ra_m1 := fun o => held rd_m1 (below_alloc wf o)
  have ra_m2 := fun o => held rd_m2 (below_alloc wf o)
  have ra_m3 := fun o => held rd_m3 (below_alloc wf o)
  have ra_m4 := fun o => held rd_m4 (below_alloc wf o)
  obtain ⟨rd_x0, rd_x1, rd_x2, rd_x3⟩ := ch_x.out wf bb_we.out
  have ra_x0 := fun o => held rd_x0 (below_alloc wf o)
  have ra_x1 := fun o => held rd_x1 (below_alloc wf o)
  have ra_x2 := fun o => held rd_x2 (below_alloc wf o)
  have ra_x3 := fun o => held rd_x3 (below_alloc wf o)
  go_wp2_with fail
  clear rd_m0 rd_m1 rd_m2 rd_m3 rd_m4 ra_m0 ra_m1 ra_m2 ra_m3 ra_m4 rd_x0 rd_x1 rd_x2 rd_x3 ra_x0 ra_x1 ra_x2 ra_x3
  obtain ⟨wg, hw_wg⟩ : ∃ wg, wg = wf.alloc (.cells #[.int .i64 1, .int .i64 2, .int .i64 0, .slice (some ⟨g2, 0, none⟩) 40 40] 35) := ⟨_, rfl⟩
  rw [← hw_wg]
  have hst_wg : Hid (Below wf.heap.size wf wg) := by rw [hw_wg]; exact below_alloc _ _
  replace bb_w : Hid (Below w.heap.size w wg) := below_then bb_w.out hst_wg.out
  replace bb_wb : Hid (Below wb.heap.size wb wg) := below_then bb_wb.out hst_wg.out
  replace bb_wc : Hid (Below wc.heap.size wc wg) := below_then bb_wc.out hst_wg.out
  replace bb_wd : Hid (Below wd.heap.size wd wg) := below_then bb_wd.out hst_wg.out
  replace bb_we : Hid (Below we.heap.size we wg) := below_then bb_we.out hst_wg.out
  replace bb_wf : Hid (Below wf.heap.size wf wg) := below_then bb_wf.out hst_wg.out
  have hz_wg : wf.heap.size < wg.heap.size := by rw [hw_wg]; simp
  have bb_wg : Hid (Below wg.heap.size wg wg) := Below.refl _ _
  have ch_y : Hid (∀ v, Below wg.heap.size wg v → v.cell? ⟨wf.heap.size, 0, none⟩ = some (.int .i64 1) ∧ v.cell? ⟨wf.heap.size, 1, none⟩ = some (.int .i64 2) ∧ v.cell? ⟨wf.heap.size, 2, none⟩ = some (.int .i64 0) ∧ v.cell? ⟨wf.heap.size, 3, none⟩ = some (.slice (some ⟨g2, 0, none⟩) 40 40)) := fun v hv => ⟨blk_held hw_wg hv 0 rfl, blk_held hw_wg hv 1 rfl, blk_held hw_wg hv 2 rfl, blk_held hw_wg hv 3 rfl⟩
  clear hw_wg
  have HPU := Put_any (y := xp 1) al_put lom 48 Am Cm (some ⟨g1, 0, none⟩) 40 wg (HIM.out.lst.below bb_wb.out) (HR1.out.below bb_wd.out) (fun e => by cases e)
  have HPU : Calls Try.prog 22 #[.agg #[.int .i64 2, .int .i64 1, .int .i64 16, .int .i64 8, .slice lom 48 48], .agg #[.int .i64 1, .int .i64 2, .int .i64 0, .slice (some ⟨g1, 0, none⟩) 40 40]] wg _ := HPU
  refine HPU.mono ?_
  rintro e wh ⟨loa, Aa, Ca, rfl, hia, hh⟩
  have HIA : Hid (Im wg.heap.size wh loa 48 Aa Ca f1) := hia
  have hst_wh : Hid (Below wg.heap.size wg wh) := hh
  replace bb_w : Hid (Below w.heap.size w wh) := below_then bb_w.out hst_wh.out
  replace bb_wb : Hid (Below wb.heap.size wb wh) := below_then bb_wb.out hst_wh.out
  replace bb_wc : Hid (Below wc.heap.size wc wh) := below_then bb_wc.out hst_wh.out
  replace bb_wd : Hid (Below wd.heap.size wd wh) := below_then bb_wd.out hst_wh.out
  replace bb_we : Hid (Below we.heap.size we wh) := below_then bb_we.out hst_wh.out
  replace bb_wf : Hid (Below wf.heap.size wf wh) := below_then bb_wf.out hst_wh.out
  replace bb_wg : Hid (Below wg.heap.size wg wh) := below_then bb_wg.out hst_wh.out
  have bb_wh : Hid (Below wh.heap.size wh wh) := Below.refl _ _
  clear hh HPU hia
  go_wp2_with fail
  obtain ⟨wi, hw_wi⟩ : ∃ wi, wi = wh.alloc (.cells #[.int .i64 2, .int .i64 1, .int .i64 16, .int .i64 8, .slice loa 48 48] 27) := ⟨_, rfl⟩
  rw [← hw_wi]
  have hst_wi : Hid (Below wh.heap.size wh wi) := by rw [hw_wi]; exact below_alloc _ _
  replace bb_w : Hid (Below w.heap.size w wi) := below_then bb_w.out hst_wi.out
  replace bb_wb : Hid (Below wb.heap.size wb wi) := below_then bb_wb.out hst_wi.out
  replace bb_wc : Hid (Below wc.heap.size wc wi) := below_then bb_wc.out hst_wi.out
  replace bb_wd : Hid (Below wd.heap.size wd wi) := below_then bb_wd.out hst_wi.out
  replace bb_we : Hid (Below we.heap.size we wi) := below_then bb_we.out hst_wi.out
  replace bb_wf : Hid (Below wf.heap.size wf wi) := below_then bb_wf.out hst_wi.out
  replace bb_wg : Hid (Below wg.heap.size wg wi) := below_then bb_wg.out hst_wi.out
  replace bb_wh : Hid (Below wh.heap.size wh wi) := below_then bb_wh.out hst_wi.out
  have hz_wi : wh.heap.size < wi.heap.size := by rw [hw_wi]; simp
  have bb_wi : Hid (Below wi.heap.size wi wi) := Below.refl _ _
  have ch_a : Hid (∀ v, Below wi.heap.size wi v → v.cell? ⟨wh.heap.size, 0, none⟩ = some (.int .i64 2) ∧ v.cell? ⟨wh.heap.size, 1, none⟩ = some (.int .i64 1) ∧ v.cell? ⟨wh.heap.size, 2, none⟩ = some (.int .i64 16) ∧ v.cell? ⟨wh.heap.size, 3, none⟩ = some (.int .i64 8) ∧ v.cell? ⟨wh.heap.size, 4, none⟩ = some (.slice loa 48 48)) := fun v hv => ⟨blk_held hw_wi hv 0 rfl, blk_held hw_wi hv 1 rfl, blk_held hw_wi hv 2 rfl, blk_held hw_wi hv 3 rfl, blk_held hw_wi hv 4 rfl⟩
  clear hw_wi
  refine (Row_any al_row loa 48 (Nat.le_refl _) Aa Ca wi (HIA.out.lst.below bb_wh.out)).mono ?_
  rintro e wj ⟨lor, Ar, Cr, rfl, hir, hj⟩
  have HIR : Hid (Im wi.heap.size wj lor 6 Ar Cr (rowF 8 2 f1)) := hir
  have hst_wj : Hid (Below wi.heap.size wi wj) := hj
  replace bb_w : Hid (Below w.heap.size w wj) := below_then bb_w.out hst_wj.out
  replace bb_wb : Hid (Below wb.heap.size wb wj) := below_then bb_wb.out hst_wj.out
  replace bb_wc : Hid (Below wc.heap.size wc wj) := below_then bb_wc.out hst_wj.out
  replace bb_wd : Hid (Below wd.heap.size wd wj) := below_then bb_wd.out hst_wj.out
  replace bb_we : Hid (Below we.heap.size we wj) := below_then bb_we.out hst_wj.out
  replace bb_wf : Hid (Below wf.heap.size wf wj) := below_then bb_wf.out hst_wj.out
  replace bb_wg : Hid (Below wg.heap.size wg wj) := below_then bb_wg.out hst_wj.out
  replace bb_wh : Hid (Below wh.heap.size wh wj) := below_then bb_wh.out hst_wj.out
  replace bb_wi : Hid (Below wi.heap.size wi wj) := below_then bb_wi.out hst_wj.out
  have bb_wj : Hid (Below wj.heap.size wj wj) := Below.refl _ _
  clear hj hir
  obtain ⟨rd_m0, rd_m1, rd_m2, rd_m3, rd_m4⟩ := ch_m.out wj bb_wc.out
  have ra_m0 := fun o => held rd_m0 (below_alloc wj o)
  have ra_m1 := fun o => held rd_m1 (below_alloc wj o)
  have ra_m2 := fun o => held rd_m2 (below_alloc wj o)
  have ra_m3 := fun o => held rd_m3 (below_alloc wj o)
  have ra_m4 := fun o => held rd_m4 (below_alloc wj o)
  obtain ⟨rd_x0, rd_x1, rd_x2, rd_x3⟩ := ch_x.out wj bb_we.out
  have ra_x0 := fun o => held rd_x0 (below_alloc wj o)
  have ra_x1 := fun o => held rd_x1 (below_alloc wj o)
  have ra_x2 := fun o => held rd_x2 (below_alloc wj o)
  have ra_x3 := fun o => held rd_x3 (below_alloc wj o)
  obtain ⟨rd_y0, rd_y1, rd_y2, rd_y3⟩ := ch_y.out wj bb_wg.out
  have ra_y0 := fun o => held rd_y0 (below_alloc wj o)
  have ra_y1 := fun o => held rd_y1 (below_alloc wj o)
  have ra_y2 := fun o => held rd_y2 (below_alloc wj o)
  have ra_y3 := fun o => held rd_y3 (below_alloc wj o)
  go_wp2_with fail
  clear rd_m0 rd_m1 rd_m2 rd_m3 rd_m4 ra_m0 ra_m1 ra_m2 ra_m3 ra_m4 rd_x0 rd_x1 rd_x2 rd_x3 ra_x0 ra_x1 ra_x2 ra_x3 rd_y0 rd_y1 rd_y2 rd_y3 ra_y0 ra_y1 ra_y2 ra_y3
  obtain ⟨wk, hw_wk⟩ : ∃ wk, wk = wj.alloc (.cells #[.int .i64 1, .int .i64 2, .int .i64 0, .slice (some ⟨g1, 0, none⟩) 40 40, .int .i64 1, .int .i64 2, .int .i64 0, .slice (some ⟨g2, 0, none⟩) 40 40] 35) := ⟨_, rfl⟩
  rw [← hw_wk]
  have hst_wk : Hid (Below wj.heap.size wj wk) := by rw [hw_wk]; exact below_alloc _ _
  replace bb_w : Hid (Below w.heap.size w wk) := below_then bb_w.out hst_wk.out
  replace bb_wb : Hid (Below wb.heap.size wb wk) := below_then bb_wb.out hst_wk.out
  replace bb_wc : Hid (Below wc.heap.size wc wk) := below_then bb_wc.out hst_wk.out
  replace bb_wd : Hid (Below wd.heap.size wd wk) := below_then bb_wd.out hst_wk.out
  replace bb_we : Hid (Below we.heap.size we wk) := below_then bb_we.out hst_wk.out
  replace bb_wf : Hid (Below wf.heap.size wf wk) := below_then bb_wf.out hst_wk.out
  replace bb_wg : Hid (Below wg.heap.size wg wk) := below_then bb_wg.out hst_wk.out
  replace bb_wh : Hid (Below wh.heap.size wh wk) := below_then bb_wh.out hst_wk.out
  replace bb_wi : Hid (Below wi.heap.size wi wk) := below_then bb_wi.out hst_wk.out
  replace bb_wj : Hid (Below wj.heap.size wj wk) := below_then bb_wj.out hst_wk.out
  have hz_wk : wj.heap.size < wk.heap.size := by rw [hw_wk]; simp
  have bb_wk : Hid (Below wk.heap.size wk wk) := Below.refl _ _
  have ch_l : Hid (∀ v, Below wk.heap.size wk v → v.cell? ⟨wj.heap.size, 0, none⟩ = some (.int .i64 1) ∧ v.cell? ⟨wj.heap.size, 1, none⟩ = some (.int .i64 2) ∧ v.cell? ⟨wj.heap.size, 2, none⟩ = some (.int .i64 0) ∧ v.cell? ⟨wj.heap.size, 3, none⟩ = some (.slice (some ⟨g1, 0, none⟩) 40 40) ∧ v.cell? ⟨wj.heap.size, 4, none⟩ = some (.int .i64 1) ∧ v.cell? ⟨wj.heap.size, 5, none⟩ = some (.int .i64 2) ∧ v.cell? ⟨wj.heap.size, 6, none⟩ = some (.int .i64 0) ∧ v.cell? ⟨wj.heap.size, 7, none⟩ = some (.slice (some ⟨g2, 0, none⟩) 40 40)) := fun v hv => ⟨blk_held hw_wk hv 0 rfl, blk_held hw_wk hv 1 rfl, blk_held hw_wk hv 2 rfl, blk_held hw_wk hv 3 rfl, blk_held hw_wk hv 4 rfl, blk_held hw_wk hv 5 rfl, blk_held hw_wk hv 6 rfl, blk_held hw_wk hv 7 rfl⟩
  clear hw_wk
  obtain ⟨l0, l1, l2, l3, l4, l5, l6, l7⟩ := ch_l.out wk (Below.refl _ _)
  have hpts : Pts wk (fun _ => True) (some ⟨wj.heap.size, 0, none⟩) 2 d2 (fun j => if j = 0 then some ⟨g1, 0, none⟩ else some ⟨g2, 0, none⟩) (fun _ => 40) := by
    refine ⟨fun _ => ⟨wj.heap.size, 0, rfl, fun i hi => ?_⟩, fun i hi => ?_, fun i _ h => ?_, fun _ _ _ => trivial, fun _ _ _ _ _ => trivial⟩
    · have : i = 0 ∨ i = 1 := by omega
      rcases this with rfl | rfl
      · exact ⟨l0, l1, l2, l3⟩
      · exact ⟨l4, l5, l6, l7⟩
    · have : i = 0 ∨ i = 1 := by omega
      rcases this with rfl | rfl
      · exact HR1.out.below bb_wd.out
      · exact HR2.out.below bb_wf.out
    · have : i = 0 ∨ i = 1 := by omega
      rcases this with rfl | rfl <;> simp at h
  have HAF := After_any al_after lom 48 Am Cm (some ⟨wj.heap.size, 0, none⟩) 2 _ _ wk (HIM.out.lst.below bb_wb.out) hpts (by omega)
  clear l0 l1 l2 l3 l4 l5 l6 l7 hpts
  refine HAF.mono ?_
  rintro e wl ⟨lob, Ab, Cb, rfl, hib, hl⟩
  have HIB : Hid (Im wk.heap.size wl lob 48 Ab Cb f2) := hib
  have hst_wl : Hid (Below wk.heap.size wk wl) := hl
  replace bb_w : Hid (Below w.heap.size w wl) := below_then bb_w.out hst_wl.out
  replace bb_wb : Hid (Below wb.heap.size wb wl) := below_then bb_wb.out hst_wl.out
  replace bb_wc : Hid (Below wc.heap.size wc wl) := below_then bb_wc.out hst_wl.out
  replace bb_wd : Hid (Below wd.heap.size wd wl) := below_then bb_wd.out hst_wl.out
  replace bb_we : Hid (Below we.heap.size we wl) := below_then bb_we.out hst_wl.out
  replace bb_wf : Hid (Below wf.heap.size wf wl) := below_then bb_wf.out hst_wl.out
  replace bb_wg : Hid (Below wg.heap.size wg wl) := below_then bb_wg.out hst_wl.out
  replace bb_wh : Hid (Below wh.heap.size wh wl) := below_then bb_wh.out hst_wl.out
  replace bb_wi : Hid (Below wi.heap.size wi wl) := below_then bb_wi.out hst_wl.out
  replace bb_wj : Hid (Below wj.heap.size wj wl) := below_then bb_wj.out hst_wl.out
  replace bb_wk : Hid (Below wk.heap.size wk wl) := below_then bb_wk.out hst_wl.out
  have bb_wl : Hid (Below wl.heap.size wl wl) := Below.refl _ _
  clear hl HAF hib
  obtain ⟨rd_m0, rd_m1, rd_m2, rd_m3, rd_m4⟩ := ch_m.out wl bb_wc.out
  have ra_m0 := fun o => held rd_m0 (below_alloc wl o)
  have ra_m1 := fun o => held rd_m1 (below_alloc wl o)
  have ra_m2 := fun o => held rd_m2 (below_alloc wl o)
  have ra_m3 := fun o => held rd_m3 (below_alloc wl o)
  have ra_m4 := fun o => held rd_m4 (below_alloc wl o)
  go_wp2_with fail
  clear rd_m0 rd_m1 rd_m2 rd_m3 rd_m4 ra_m0 ra_m1 ra_m2 ra_m3 ra_m4
  obtain ⟨wm, hw_wm⟩ : ∃ wm, wm = wl.alloc (.cells #[.int .i64 2, .int .i64 1, .int .i64 16, .int .i64 8, .slice lob 48 48] 27) := ⟨_, rfl⟩
  rw [← hw_wm]
  have hst_wm : Hid (Below wl.heap.size wl wm) := by rw [hw_wm]; exact below_alloc _ _
  replace bb_w : Hid (Below w.heap.size w wm) := below_then bb_w.out hst_wm.out
  replace bb_wb : Hid (Below wb.heap.size wb wm) := below_then bb_wb.out hst_wm.out
  replace bb_wc : Hid (Below wc.heap.size wc wm) := below_then bb_wc.out hst_wm.out
  replace bb_wd : Hid (Below wd.heap.size wd wm) := below_then bb_wd.out hst_wm.out
  replace bb_we : Hid (Below we.heap.size we wm) := below_then bb_we.out hst_wm.out
  replace bb_wf : Hid (Below wf.heap.size wf wm) := below_then bb_wf.out hst_wm.out
  replace bb_wg : Hid (Below wg.heap.size wg wm) := below_then bb_wg.out hst_wm.out
  replace bb_wh : Hid (Below wh.heap.size wh wm) := below_then bb_wh.out hst_wm.out
  replace bb_wi : Hid (Below wi.heap.size wi wm) := below_then bb_wi.out hst_wm.out
  replace bb_wj : Hid (Below wj.heap.size wj wm) := below_then bb_wj.out hst_wm.out
  replace bb_wk : Hid (Below wk.heap.size wk wm) := below_then bb_wk.out hst_wm.out
  replace bb_wl : Hid (Below wl.heap.size wl wm) := below_then bb_wl.out hst_wm.out
  have hz_wm : wl.heap.size < wm.heap.size := by rw [hw_wm]; simp
  have bb_wm : Hid (Below wm.heap.size wm wm) := Below.refl _ _
  have ch_b : Hid (∀ v, Below wm.heap.size wm v → v.cell? ⟨wl.heap.size, 0, none⟩ = some (.int .i64 2) ∧ v.cell? ⟨wl.heap.size, 1, none⟩ = some (.int .i64 1) ∧ v.cell? ⟨wl.heap.size, 2, none⟩ = some (.int .i64 16) ∧ v.cell? ⟨wl.heap.size, 3, none⟩ = some (.int .i64 8) ∧ v.cell? ⟨wl.heap.size, 4, none⟩ = some (.slice lob 48 48)) := fun v hv => ⟨blk_held hw_wm hv 0 rfl, blk_held hw_wm hv 1 rfl, blk_held hw_wm hv 2 rfl, blk_held hw_wm hv 3 rfl, blk_held hw_wm hv 4 rfl⟩
  clear hw_wm
  refine (Diff_any al_diff lom lob 48 48 Am Ab Cm Cb wm (HIM.out.lst.below bb_wb.out) (HIB.out.lst.below bb_wl.out)).mono ?_
  rintro e wn ⟨pod, pcd, Bd, Kd, rfl, hid, hn⟩
  have HID : Hid (Pus true wn wm.heap.size pod 1 pcd (fun j => [xp 2].getD j p0) Bd Kd) := hid
  have hst_wn : Hid (Below wm.heap.size wm wn) := hn
  replace bb_w : Hid (Below w.heap.size w wn) := below_then bb_w.out hst_wn.out
  replace bb_wb : Hid (Below wb.heap.size wb wn) := below_then bb_wb.out hst_wn.out
  replace bb_wc : Hid (Below wc.heap.size wc wn) := below_then bb_wc.out hst_wn.out
  replace bb_wd : Hid (Below wd.heap.size wd wn) := below_then bb_wd.out hst_wn.out
  replace bb_we : Hid (Below we.heap.size we wn) := below_then bb_we.out hst_wn.out
  replace bb_wf : Hid (Below wf.heap.size wf wn) := below_then bb_wf.out hst_wn.out
  replace bb_wg : Hid (Below wg.heap.size wg wn) := below_then bb_wg.out hst_wn.out
  replace bb_wh : Hid (Below wh.heap.size wh wn) := below_then bb_wh.out hst_wn.out
  replace bb_wi : Hid (Below wi.heap.size wi wn) := below_then bb_wi.out hst_wn.out
  replace bb_wj : Hid (Below wj.heap.size wj wn) := below_then bb_wj.out hst_wn.out
  replace bb_wk : Hid (Below wk.heap.size wk wn) := below_then bb_wk.out hst_wn.out
  replace bb_wl : Hid (Below wl.heap.size wl wn) := below_then bb_wl.out hst_wn.out
  replace bb_wm : Hid (Below wm.heap.size wm wn) := below_then bb_wm.out hst_wn.out
  have bb_wn : Hid (Below wn.heap.size wn wn) := Below.refl _ _
  clear hn hid
  obtain ⟨rd_a0, rd_a1, rd_a2, rd_a3, rd_a4⟩ := ch_a.out wn bb_wi.out
  have ra_a0 := fun o => held rd_a0 (below_alloc wn o)
  have ra_a1 := fun o => held rd_a1 (below_alloc wn o)
  have ra_a2 := fun o => held rd_a2 (below_alloc wn o)
  have ra_a3 := fun o => held rd_a3 (below_alloc wn o)
  have ra_a4 := fun o => held rd_a4 (below_alloc wn o)
  go_wp2_with fail
  clear rd_a0 rd_a1 rd_a2 rd_a3 rd_a4 ra_a0 ra_a1 ra_a2 ra_a3 ra_a4
  refine (Wiped_any al_wiped loa 48 Aa Ca wn (HIA.out.lst.below bb_wh.out)).mono ?_
  rintro e wo ⟨low, Aw, Cw, rfl, hiw, ho⟩
  have HIW : Hid (Im wn.heap.size wo low 48 Aw Cw (wpF 8 1 f1)) := hiw
  have hst_wo : Hid (Below wn.heap.size wn wo) := ho
  replace bb_w : Hid (Below w.heap.size w wo) := below_then bb_w.out hst_wo.out
  replace bb_wb : Hid (Below wb.heap.size wb wo) := below_then bb_wb.out hst_wo.out
  replace bb_wc : Hid (Below wc.heap.size wc wo) := below_then bb_wc.out hst_wo.out
  replace bb_wd : Hid (Below wd.heap.size wd wo) := below_then bb_wd.out hst_wo.out
  replace bb_we : Hid (Below we.heap.size we wo) := below_then bb_we.out hst_wo.out
  replace bb_wf : Hid (Below wf.heap.size wf wo) := below_then bb_wf.out hst_wo.out
  replace bb_wg : Hid (Below wg.heap.size wg wo) := below_then bb_wg.out hst_wo.out
  replace bb_wh : Hid (Below wh.heap.size wh wo) := below_then bb_wh.out hst_wo.out
  replace bb_wi : Hid (Below wi.heap.size wi wo) := below_then bb_wi.out hst_wo.out
  replace bb_wj : Hid (Below wj.heap.size wj wo) := below_then bb_wj.out hst_wo.out
  replace bb_wk : Hid (Below wk.heap.size wk wo) := below_then bb_wk.out hst_wo.out
  replace bb_wl : Hid (Below wl.heap.size wl wo) := below_then bb_wl.out hst_wo.out
  replace bb_wm : Hid (Below wm.heap.size wm wo) := below_then bb_wm.out hst_wo.out
  replace bb_wn : Hid (Below wn.heap.size wn wo) := below_then bb_wn.out hst_wo.out
  have bb_wo : Hid (Below wo.heap.size wo wo) := Below.refl _ _
  clear ho hiw
  obtain ⟨rd_a0, rd_a1, rd_a2, rd_a3, rd_a4⟩ := ch_a.out wo bb_wi.out
  have ra_a0 := fun o => held rd_a0 (below_alloc wo o)
  have ra_a1 := fun o => held rd_a1 (below_alloc wo o)
  have ra_a2 := fun o => held rd_a2 (below_alloc wo o)
  have ra_a3 := fun o => held rd_a3 (below_alloc wo o)
  have ra_a4 := fun o => held rd_a4 (below_alloc wo o)
  obtain ⟨rd_m0, rd_m1, rd_m2, rd_m3, rd_m4⟩ := ch_m.out wo bb_wc.out
  have ra_m0 := fun o => held rd_m0 (below_alloc wo o)
  have ra_m1 := fun o => held rd_m1 (below_alloc wo o)
  have ra_m2 := fun o => held rd_m2 (below_alloc wo o)
  have ra_m3 := fun o => held rd_m3 (below_alloc wo o)
  have ra_m4 := fun o => held rd_m4 (below_alloc wo o)
  go_wp2_with fail
  clear rd_a0 rd_a1 rd_a2 rd_a3 rd_a4 ra_a0 ra_a1 ra_a2 ra_a3 ra_a4 rd_m0 rd_m1 rd_m2 rd_m3 rd_m4 ra_m0 ra_m1 ra_m2 ra_m3 ra_m4
  obtain ⟨wp, hw_wp⟩ : ∃ wp, wp = wo.alloc (.cells #[.int .i64 2, .int .i64 1, .int .i64 16, .int .i64 8, .slice low 48 48] 27) := ⟨_, rfl⟩
  rw [← hw_wp]
  have hst_wp : Hid (Below wo.heap.size wo wp) := by rw [hw_wp]; exact below_alloc _ _
  replace bb_w : Hid (Below w.heap.size w wp) := below_then bb_w.out hst_wp.out
  replace bb_wb : Hid (Below wb.heap.size wb wp) := below_then bb_wb.out hst_wp.out
  replace bb_wc : Hid (Below wc.heap.size wc wp) := below_then bb_wc.out hst_wp.out
  replace bb_wd : Hid (Below wd.heap.size wd wp) := below_then bb_wd.out hst_wp.out
  replace bb_we : Hid (Below we.heap.size we wp) := below_then bb_we.out hst_wp.out
  replace bb_wf : Hid (Below wf.heap.size wf wp) := below_then bb_wf.out hst_wp.out
  replace bb_wg : Hid (Below wg.heap.size wg wp) := below_then bb_wg.out hst_wp.out
  replace bb_wh : Hid (Below wh.heap.size wh wp) := below_then bb_wh.out hst_wp.out
  replace bb_wi : Hid (Below wi.heap.size wi wp) := below_then bb_wi.out hst_wp.out
  replace bb_wj : Hid (Below wj.heap.size wj wp) := below_then bb_wj.out hst_wp.out
  replace bb_wk : Hid (Below wk.heap.size wk wp) := below_then bb_wk.out hst_wp.out
  replace bb_wl : Hid (Below wl.heap.size wl wp) := below_then bb_wl.out hst_wp.out
  replace bb_wm : Hid (Below wm.heap.size wm wp) := below_then bb_wm.out hst_wp.out
  replace bb_wn : Hid (Below wn.heap.size wn wp) := below_then bb_wn.out hst_wp.out
  replace bb_wo : Hid (Below wo.heap.size wo wp) := below_then bb_wo.out hst_wp.out
  have hz_wp : wo.heap.size < wp.heap.size := by rw [hw_wp]; simp
  have bb_wp : Hid (Below wp.heap.size wp wp) := Below.refl _ _
  have ch_w : Hid (∀ v, Below wp.heap.size wp v → v.cell? ⟨wo.heap.size, 0, none⟩ = some (.int .i64 2) ∧ v.cell? ⟨wo.heap.size, 1, none⟩ = some (.int .i64 1) ∧ v.cell? ⟨wo.heap.size, 2, none⟩ = some (.int .i64 16) ∧ v.cell? ⟨wo.heap.size, 3, none⟩ = some (.int .i64 8) ∧ v.cell? ⟨wo.heap.size, 4, none⟩ = some (.slice low 48 48)) := fun v hv => ⟨blk_held hw_wp hv 0 rfl, blk_held hw_wp hv 1 rfl, blk_held hw_wp hv 2 rfl, blk_held hw_wp hv 3 rfl, blk_held hw_wp hv 4 rfl⟩
  clear hw_wp
  refine (Diff_any al_undiff loa lom 48 48 Aa Am Ca Cm wp (HIA.out.lst.below bb_wh.out) (HIM.out.lst.below bb_wb.out)).mono ?_
  rintro e wq ⟨pou, pcu, Bu, Ku, rfl, hiu, hq⟩
  have hst_wq : Hid (Below wp.heap.size wp wq) := hq
  replace bb_w : Hid (Below w.heap.size w wq) := below_then bb_w.out hst_wq.out
  replace bb_wb : Hid (Below wb.heap.size wb wq) := below_then bb_wb.out hst_wq.out
  replace bb_wc : Hid (Below wc.heap.size wc wq) := below_then bb_wc.out hst_wq.out
  replace bb_wd : Hid (Below wd.heap.size wd wq) := below_then bb_wd.out hst_wq.out
  replace bb_we : Hid (Below we.heap.size we wq) := below_then bb_we.out hst_wq.out
  replace bb_wf : Hid (Below wf.heap.size wf wq) := below_then bb_wf.out hst_wq.out
  replace bb_wg : Hid (Below wg.heap.size wg wq) := below_then bb_wg.out hst_wq.out
  replace bb_wh : Hid (Below wh.heap.size wh wq) := below_then bb_wh.out hst_wq.out
  replace bb_wi : Hid (Below wi.heap.size wi wq) := below_then bb_wi.out hst_wq.out
  replace bb_wj : Hid (Below wj.heap.size wj wq) := below_then bb_wj.out hst_wq.out
  replace bb_wk : Hid (Below wk.heap.size wk wq) := below_then bb_wk.out hst_wq.out
  replace bb_wl : Hid (Below wl.heap.size wl wq) := below_then bb_wl.out hst_wq.out
  replace bb_wm : Hid (Below wm.heap.size wm wq) := below_then bb_wm.out hst_wq.out
  replace bb_wn : Hid (Below wn.heap.size wn wq) := below_then bb_wn.out hst_wq.out
  replace bb_wo : Hid (Below wo.heap.size wo wq) := below_then bb_wo.out hst_wq.out
  replace bb_wp : Hid (Below wp.heap.size wp wq) := below_then bb_wp.out hst_wq.out
  clear hq hiu
  obtain ⟨rd_x0, rd_x1, rd_x2, rd_x3⟩ := ch_x.out wq bb_we.out
  have ra_x0 := fun o => held rd_x0 (below_alloc wq o)
  have ra_x1 := fun o => held rd_x1 (below_alloc wq o)
  have ra_x2 := fun o => held rd_x2 (below_alloc wq o)
  have ra_x3 := fun o => held rd_x3 (below_alloc wq o)
  go_wp2_with fail
  clear rd_x0 rd_x1 rd_x2 rd_x3 ra_x0 ra_x1 ra_x2 ra_x3
  obtain ⟨wr, hw_wr⟩ : ∃ wr, wr = wq.alloc (.cells #[.int .i64 1, .int .i64 2, .int .i64 0, .slice (some ⟨g1, 0, none⟩) 40 40, .int .i64 1, .int .i64 2, .int .i64 0, .slice (some ⟨g1, 0, none⟩) 40 40] 35) := ⟨_, rfl⟩
  rw [← hw_wr]
  have hst_wr : Hid (Below wq.heap.size wq wr) := by rw [hw_wr]; exact below_alloc _ _
  replace bb_w : Hid (Below w.heap.size w wr) := below_then bb_w.out hst_wr.out
  replace bb_wb : Hid (Below wb.heap.size wb wr) := below_then bb_wb.out hst_wr.out
  replace bb_wc : Hid (Below wc.heap.size wc wr) := below_then bb_wc.out hst_wr.out
  replace bb_wd : Hid (Below wd.heap.size wd wr) := below_then bb_wd.out hst_wr.out
  replace bb_we : Hid (Below we.heap.size we wr) := below_then bb_we.out hst_wr.out
  replace bb_wf : Hid (Below wf.heap.size wf wr) := below_then bb_wf.out hst_wr.out
  replace bb_wg : Hid (Below wg.heap.size wg wr) := below_then bb_wg.out hst_wr.out
  replace bb_wh : Hid (Below wh.heap.size wh wr) := below_then bb_wh.out hst_wr.out
  replace bb_wi : Hid (Below wi.heap.size wi wr) := below_then bb_wi.out hst_wr.out
  replace bb_wj : Hid (Below wj.heap.size wj wr) := below_then bb_wj.out hst_wr.out
  replace bb_wk : Hid (Below wk.heap.size wk wr) := below_then bb_wk.out hst_wr.out
  replace bb_wl : Hid (Below wl.heap.size wl wr) := below_then bb_wl.out hst_wr.out
  replace bb_wm : Hid (Below wm.heap.size wm wr) := below_then bb_wm.out hst_wr.out
  replace bb_wn : Hid (Below wn.heap.size wn wr) := below_then bb_wn.out hst_wr.out
  replace bb_wo : Hid (Below wo.heap.size wo wr) := below_then bb_wo.out hst_wr.out
  replace bb_wp : Hid (Below wp.heap.size wp wr) := below_then bb_wp.out hst_wr.out
  have hz_wr : wq.heap.size < wr.heap.size := by rw [hw_wr]; simp
  have bb_wr : Hid (Below wr.heap.size wr wr) := Below.refl _ _
  have ch_ll : Hid (∀ v, Below wr.heap.size wr v → v.cell? ⟨wq.heap.size, 0, none⟩ = some (.int .i64 1) ∧ v.cell? ⟨wq.heap.size, 1, none⟩ = some (.int .i64 2) ∧ v.cell? ⟨wq.heap.size, 2, none⟩ = some (.int .i64 0) ∧ v.cell? ⟨wq.heap.size, 3, none⟩ = some (.slice (some ⟨g1, 0, none⟩) 40 40) ∧ v.cell? ⟨wq.heap.size, 4, none⟩ = some (.int .i64 1) ∧ v.cell? ⟨wq.heap.size, 5, none⟩ = some (.int .i64 2) ∧ v.cell? ⟨wq.heap.size, 6, none⟩ = some (.int .i64 0) ∧ v.cell? ⟨wq.heap.size, 7, none⟩ = some (.slice (some ⟨g1, 0, none⟩) 40 40)) := fun v hv => ⟨blk_held hw_wr hv 0 rfl, blk_held hw_wr hv 1 rfl, blk_held hw_wr hv 2 rfl, blk_held hw_wr hv 3 rfl, blk_held hw_wr hv 4 rfl, blk_held hw_wr hv 5 rfl, blk_held hw_wr hv 6 rfl, blk_held hw_wr hv 7 rfl⟩
  clear hw_wr
  obtain ⟨l0, l1, l2, l3, l4, l5, l6, l7⟩ := ch_ll.out wr (Below.refl _ _)
  have hpts : Pts wr (fun _ => True) (some ⟨wq.heap.size, 0, none⟩) 2 (fun _ => xp 1) (fun _ => some ⟨g1, 0, none⟩) (fun _ => 40) := by
    refine ⟨fun _ => ⟨wq.heap.size, 0, rfl, fun i hi => ?_⟩, fun i hi => HR1.out.below bb_wd.out, (fun i _ h => by cases h), fun _ _ _ => trivial, fun _ _ _ _ _ => trivial⟩
    have : i = 0 ∨ i = 1 := by omega
    rcases this with rfl | rfl
    · exact ⟨l0, l1, l2, l3⟩
    · exact ⟨l4, l5, l6, l7⟩
  have HRW := Rows_img al_rows (some ⟨wq.heap.size, 0, none⟩) 2 _ _ wr hpts
  clear l0 l1 l2 l3 l4 l5 l6 l7 hpts
  refine HRW.mono ?_
  rintro e ws ⟨aol, capl, rfl, hrl, hs⟩
  have HRL : Hid (RdI ws aol [2]) := hrl
  have hst_ws : Hid (Below wr.heap.size wr ws) := hs
  replace bb_w : Hid (Below w.heap.size w ws) := below_then bb_w.out hst_ws.out
  replace bb_wb : Hid (Below wb.heap.size wb ws) := below_then bb_wb.out hst_ws.out
  replace bb_wc : Hid (Below wc.heap.size wc ws) := below_then bb_wc.out hst_ws.out
  replace bb_wd : Hid (Below wd.heap.size wd ws) := below_then bb_wd.out hst_ws.out
  replace bb_we : Hid (Below we.heap.size we ws) := below_then bb_we.out hst_ws.out
  replace bb_wf : Hid (Below wf.heap.size wf ws) := below_then bb_wf.out hst_ws.out
  replace bb_wg : Hid (Below wg.heap.size wg ws) := below_then bb_wg.out hst_ws.out
  replace bb_wh : Hid (Below wh.heap.size wh ws) := below_then bb_wh.out hst_ws.out
  replace bb_wi : Hid (Below wi.heap.size wi ws) := below_then bb_wi.out hst_ws.out
  replace bb_wj : Hid (Below wj.heap.size wj ws) := below_then bb_wj.out hst_ws.out
  replace bb_wk : Hid (Below wk.heap.size wk ws) := below_then bb_wk.out hst_ws.out
  replace bb_wl : Hid (Below wl.heap.size wl ws) := below_then bb_wl.out hst_ws.out
  replace bb_wm : Hid (Below wm.heap.size wm ws) := below_then bb_wm.out hst_ws.out
  replace bb_wn : Hid (Below wn.heap.size wn ws) := below_then bb_wn.out hst_ws.out
  replace bb_wo : Hid (Below wo.heap.size wo ws) := below_then bb_wo.out hst_ws.out
  replace bb_wp : Hid (Below wp.heap.size wp ws) := below_then bb_wp.out hst_ws.out
  replace bb_wr : Hid (Below wr.heap.size wr ws) := below_then bb_wr.out hst_ws.out
  have bb_ws : Hid (Below ws.heap.size ws ws) := Below.refl _ _
  clear hs HRW hrl
  obtain ⟨lr, rfl, hir, _⟩ : ∃ lr, lor = some ⟨lr, 0, none⟩ ∧ RSl wj (fun b => wi.heap.size ≤ b) lr 6 Ar Cr (rowF 8 2 f1) ∧ True := by
    rcases HIR.out with ⟨h, _⟩ | ⟨lr, e, h, _⟩
    · cases h
    · exact ⟨lr, e, h, trivial⟩
  have e0 := held (hir.cell 0 (by omega)) bb_wj.out
  have e2 := held (hir.cell 2 (by omega)) bb_wj.out
  have e3 := held (hir.cell 3 (by omega)) bb_wj.out
  rw [show (rowF 8 2 f1 0).length = 0 from by simp [rowF, f1, upd]] at e0
  rw [show (rowF 8 2 f1 2).length = 40 from by simp [rowF, f1, upd]] at e2
  rw [show (rowF 8 2 f1 3).length = 0 from by simp [rowF, f1, upd]] at e3
  have hx2 : rowF 8 2 f1 2 = List.replicate 40 1 := by simp [rowF, f1, upd]
  have hrd := hir.rd 2 (by omega)
  rw [hx2] at hrd
  obtain ⟨br, off, hA, hbr⟩ := hrd (by simp)
  have e4 := held (hbr 39 (by simp)) bb_wj.out
  rw [hA] at e2
  rw [List.getElem_replicate] at e4
  obtain ⟨ld, rfl, _, _, _, hpd⟩ := pus_at HID.out (by omega)
  obtain ⟨p1, p2, p3, p4⟩ := hpd 0 (by omega)
  have p1 := held p1 bb_wn.out
  have p2 := held p2 bb_wn.out
  have p4 := held p4 bb_wn.out
  have hrb := (HID.out.2 0 (by omega)).1
  obtain ⟨bd, offd, hBd, hbd⟩ := hrb (by show (xp 2).b ≠ []; unfold xp; simp)
  have p5 := held (hbd 0 (by show 0 < (xp 2).b.length; unfold xp; simp)) bb_wn.out
  rw [hBd] at p4
  have p1 : ws.cell? ⟨ld, 0, none⟩ = some (.int .i64 1) := p1
  have p2 : ws.cell? ⟨ld, 1, none⟩ = some (.int .i64 2) := p2
  have p4 : ws.cell? ⟨ld, 3, none⟩ = some (.slice (some ⟨bd, offd, none⟩) 40 (Kd 0)) := p4
  have p5 : ws.cell? ⟨bd, offd, none⟩ = some (.int .u8 2) := p5
  have e4 : ws.cell? ⟨br, off + 39, none⟩ = some (.int .u8 1) := e4
  obtain ⟨bl, offl, rfl, hbl⟩ := HRL.out (by simp)
  have hl0 := hbl 0 (by simp)
  have hl0 : ws.cell? ⟨bl, offl, none⟩ = some (.int .i64 2) := hl0
  obtain ⟨rd_w0, rd_w1, rd_w2, rd_w3, rd_w4⟩ := ch_w.out ws bb_wp.out
  obtain ⟨rd_m0, rd_m1, rd_m2, rd_m3, rd_m4⟩ := ch_m.out ws bb_wc.out
  have HS1 := Same_img al_same low lom 48 48 Aw Am Cw Cm ws (by omega) (HIW.out.lst.below bb_wo.out) (HIM.out.lst.below bb_wb.out)
  have HS2 : Hid (∀ v, Below ws.heap.size ws v → Calls Try.prog 34 #[.agg #[.int .i64 2, .int .i64 1, .int .i64 16, .int .i64 8, .slice loa 48 48], .agg #[.int .i64 2, .int .i64 1, .int .i64 16, .int .i64 8, .slice lom 48 48]] v fun e w' => e = .returned (.bool false) ∧ Below v.heap.size v w') := fun v hv => Same_img al_unsame loa lom 48 48 Aa Am Ca Cm v (by omega) (HIA.out.lst.below (below_then bb_wh.out hv)) (HIM.out.lst.below (below_then bb_wb.out hv))
  have tok1 : True := trivial
  clear hir hx2 hbr hpd hbd hrb hbl hA hBd p3
  go_wp2_with (first
    | (go_at_call 34; have _t := tok1; refine HS1.mono ?_; rintro e wt ⟨rfl, ht⟩; have HT : Hid (Below ws.heap.size ws wt) := ht; obtain ⟨x0, x1, x2, x3, x4⟩ := ch_a.out wt (below_then bb_wi.out ht); obtain ⟨z0, z1, z2, z3, z4⟩ := ch_m.out wt (below_then bb_wc.out ht); clear ht tok1)
    | (go_at_call 34; refine (HS2.out wt HT.out).mono ?_; rintro e wu ⟨rfl, hu⟩; have HU : Hid (Below ws.heap.size ws wu) := below_then HT.out hu; have hl1 := held hl0 HU.out; clear hu))
  go_ret
  exact ⟨rfl, below_then bb_w.out HU.out⟩
end Go.Proofs.Ytenlfhdchflnjaa
