/- The walk of ImageNames. -/
import Derived.Test.YtenlfhdchflnjaaImgW
namespace Go.Proofs.Ytenlfhdchflnjaa
open Go.RowKit
set_option maxHeartbeats 4000000 in
set_option maxRecDepth 100000 in
theorem Names_any (w : World) : Calls Try.prog 3 #[] w fun e w' => e = .returned (.bool true) ∧ Below w.heap.size w w' := by
  have bb_w : Hid (Below w.heap.size w w) := Below.refl _ _
  have HAL := alive_any w
  go_enter Try.func3, Try.ntmps3
  go_wp2_with fail
  refine HAL.mono ?_
  rintro e wa ⟨rfl, ha⟩
  have hst_wa : Hid (Below w.heap.size w wa) := ha
  replace bb_w : Hid (Below w.heap.size w wa) := below_then bb_w.out hst_wa.out
  clear ha HAL
  go_wp2_with fail
  obtain ⟨wb, hw_wb⟩ : ∃ wb, wb = wa.alloc (.cells #[.int .i64 12, .int .i64 4, .int .i64 64, .int .i64 256] 24) := ⟨_, rfl⟩
  rw [← hw_wb]
  have HBK : Hid (Blk wb wa.heap.size 24 [.int .i64 12, .int .i64 4, .int .i64 64, .int .i64 256]) := by rw [hw_wb]; exact blk_new wa 24 _
  have zwb : wb.heap.size = wa.heap.size + 1 := by rw [hw_wb]; simp
  have hst_wb : Hid (Below wa.heap.size wa wb) := by rw [hw_wb]; exact below_alloc _ _
  replace bb_w : Hid (Below w.heap.size w wb) := below_then bb_w.out hst_wb.out
  have bb_wb : Hid (Below wb.heap.size wb wb) := Below.refl _ _
  clear hw_wb
  refine (Blank_img nm_blank wb).mono ?_
  rintro e wc ⟨lom, Am, Cm, rfl, him, hc⟩
  have HIM : Hid (Im wb.heap.size wc lom 8192 Am Cm (fun _ => [])) := him
  have hst_wc : Hid (Below wb.heap.size wb wc) := hc
  replace bb_w : Hid (Below w.heap.size w wc) := below_then bb_w.out hst_wc.out
  replace bb_wb : Hid (Below wb.heap.size wb wc) := below_then bb_wb.out hst_wc.out
  have bb_wc : Hid (Below wc.heap.size wc wc) := Below.refl _ _
  clear hc him
  have HBC : Hid (∀ o, Blk (wc.alloc o) wa.heap.size 24 [.int .i64 12, .int .i64 4, .int .i64 64, .int .i64 256]) := fun o => HBK.out.below (below_then bb_wb.out (below_alloc _ _))
  have rb0 : ∀ o, (wc.alloc o).cell? ⟨wa.heap.size, 0, none⟩ = some (.int .i64 12) := fun o => (HBC.out o).cell rfl
  have rb1 : ∀ o, (wc.alloc o).cell? ⟨wa.heap.size, 1, none⟩ = some (.int .i64 4) := fun o => (HBC.out o).cell rfl
  have rb2 : ∀ o, (wc.alloc o).cell? ⟨wa.heap.size, 2, none⟩ = some (.int .i64 64) := fun o => (HBC.out o).cell rfl
  have rb3 : ∀ o, (wc.alloc o).cell? ⟨wa.heap.size, 3, none⟩ = some (.int .i64 256) := fun o => (HBC.out o).cell rfl
  have bf := fun o => (HBC.out o).free
  go_wp2_with fail
  obtain ⟨wd, hw_wd⟩ : ∃ wd, wd = (wc.alloc (.cells #[.int .i64 12, .int .i64 4, .int .i64 64, .int .i64 256, .slice lom 8192 8192] 27)).setCell ⟨wa.heap.size, 3, none⟩ (.int .i64 257) := ⟨_, rfl⟩
  rw [← hw_wd]
  have zbc := hst_wc.out.size
  have zw := hst_wa.out.size
  have HMK : Hid (Blk wd wc.heap.size 27 [.int .i64 12, .int .i64 4, .int .i64 64, .int .i64 256, .slice lom 8192 8192]) := by rw [hw_wd]; exact (blk_new wc 27 _).only (X := fun x => x = wa.heap.size) (only_one _ _ _ _) (by omega)
  have HLM : Hid (Lst wd lom 8192 Am Cm (fun _ => [])) := by rw [hw_wd]; exact (HIM.out.lst.below (below_alloc _ _)).only (X := fun x => x = wa.heap.size) (only_one _ _ _ _) (fun _ a e => by have := HIM.out.ge.1 a e; omega) (fun i a hi e _ => by have := HIM.out.ge.2 i a hi e; omega)
  have hst_wd : Hid (Below w.heap.size wc wd) := by rw [hw_wd]; exact ((Below.refl _ _).alloc (by omega) _).setCell (by show w.heap.size ≤ wa.heap.size; omega) _
  replace bb_w : Hid (Below w.heap.size w wd) := bb_w.out.trans hst_wd.out
  clear bb_wb bb_wc rb0 rb1 rb2 rb3 bf HBC HBK HIM hw_wd zbc zw zwb hst_wd hst_wc hst_wb hst_wa
  have bb_wd : Hid (Below wd.heap.size wd wd) := Below.refl _ _
  have ch_m : Hid (∀ v, Below wd.heap.size wd v → v.cell? ⟨wc.heap.size, 0, none⟩ = some (.int .i64 12) ∧ v.cell? ⟨wc.heap.size, 1, none⟩ = some (.int .i64 4) ∧ v.cell? ⟨wc.heap.size, 2, none⟩ = some (.int .i64 64) ∧ v.cell? ⟨wc.heap.size, 3, none⟩ = some (.int .i64 256) ∧ v.cell? ⟨wc.heap.size, 4, none⟩ = some (.slice lom 8192 8192)) := fun v hv => have h := HMK.out.below hv; ⟨h.cell rfl, h.cell rfl, h.cell rfl, h.cell rfl, h.cell rfl⟩
  refine (Blank_img nm_blank2 wd).mono ?_
  rintro e we ⟨lo2, A2, C2, rfl, hi2, he⟩
  have hst_we : Hid (Below wd.heap.size wd we) := he
  replace bb_w : Hid (Below w.heap.size w we) := below_then bb_w.out hst_we.out
  replace bb_wd : Hid (Below wd.heap.size wd we) := below_then bb_wd.out hst_we.out
  clear he hi2
  go_wp2_with fail
  obtain ⟨wf, hw_wf⟩ : ∃ wf, wf = we.alloc (.cells #[.int .i64 0, .int .i64 0, .int .i64 0, .int .i64 0, .slice lo2 0 0] 27) := ⟨_, rfl⟩
  rw [← hw_wf]
  have hs_wf : Hid (wf.heap.size = we.heap.size + 1) := by rw [hw_wf]; show _ = _; simp
  have hst_wf : Hid (Below we.heap.size we wf) := by rw [hw_wf]; exact below_alloc _ _
  replace bb_w : Hid (Below w.heap.size w wf) := below_then bb_w.out hst_wf.out
  replace bb_wd : Hid (Below wd.heap.size wd wf) := below_then bb_wd.out hst_wf.out
  clear hw_wf
  refine (sample_any wf).mono ?_
  rintro e wg ⟨rfl, hg⟩
  have hst_wg : Hid (Below wf.heap.size wf wg) := hg
  replace bb_w : Hid (Below w.heap.size w wg) := below_then bb_w.out hst_wg.out
  replace bb_wd : Hid (Below wd.heap.size wd wg) := below_then bb_wd.out hst_wg.out
  clear hg
  go_wp2_with fail
  obtain ⟨wh, hw_wh⟩ : ∃ wh, wh = wg.alloc (.cells #[.int .i64 2, .int .i64 1, .int .i64 16, .int .i64 8] 24) := ⟨_, rfl⟩
  rw [← hw_wh]
  have hs_wh : Hid (wh.heap.size = wg.heap.size + 1) := by rw [hw_wh]; show _ = _; simp
  have hst_wh : Hid (Below wg.heap.size wg wh) := by rw [hw_wh]; exact below_alloc _ _
  replace bb_w : Hid (Below w.heap.size w wh) := below_then bb_w.out hst_wh.out
  replace bb_wd : Hid (Below wd.heap.size wd wh) := below_then bb_wd.out hst_wh.out
  have hz_wh : wg.heap.size < wh.heap.size := by rw [hw_wh]; simp
  have bb_wh : Hid (Below wh.heap.size wh wh) := Below.refl _ _
  have ch_p : Hid (∀ v, Below wh.heap.size wh v → v.cell? ⟨wg.heap.size, 0, none⟩ = some (.int .i64 2) ∧ v.cell? ⟨wg.heap.size, 1, none⟩ = some (.int .i64 1) ∧ v.cell? ⟨wg.heap.size, 2, none⟩ = some (.int .i64 16) ∧ v.cell? ⟨wg.heap.size, 3, none⟩ = some (.int .i64 8)) := fun v hv => ⟨blk_held hw_wh hv 0 rfl, blk_held hw_wh hv 1 rfl, blk_held hw_wh hv 2 rfl, blk_held hw_wh hv 3 rfl⟩
  clear hw_wh
  refine (Blank_img al_blank wh).mono ?_
  rintro e wi ⟨lok, Ak, Ck, rfl, hik, hi⟩
  have HIK : Hid (Im wh.heap.size wi lok 48 Ak Ck (fun _ => [])) := hik
  have hst_wi : Hid (Below wh.heap.size wh wi) := hi
  replace bb_w : Hid (Below w.heap.size w wi) := below_then bb_w.out hst_wi.out
  replace bb_wd : Hid (Below wd.heap.size wd wi) := below_then bb_wd.out hst_wi.out
  replace bb_wh : Hid (Below wh.heap.size wh wi) := below_then bb_wh.out hst_wi.out
  have bb_wi : Hid (Below wi.heap.size wi wi) := Below.refl _ _
  clear hi hik
  obtain ⟨nn, Z, hnn, hmany⟩ := many_made
  have HNN : Hid (nn = 65537) := hnn
  have hmk := fun w => (hmany w).1
  have HROW : Hid (∀ w : World, (w.alloc (.cells Z 35)).rowIs w.heap.size 35 (nn * 4) (mcell 0 fun _ => none)) := fun w => (hmany w).2
  clear hmany hnn
  go_wp2_with fail
  obtain ⟨wj, hw_wj⟩ : ∃ wj, wj = wi.alloc (.cells #[.int .i64 2, .int .i64 1, .int .i64 16, .int .i64 8, .slice lok 48 48] 27) := ⟨_, rfl⟩
  rw [← hw_wj]
  have hs_wj : Hid (wj.heap.size = wi.heap.size + 1) := by rw [hw_wj]; show _ = _; simp
  have hst_wj : Hid (Below wi.heap.size wi wj) := by rw [hw_wj]; exact below_alloc _ _
  replace bb_w : Hid (Below w.heap.size w wj) := below_then bb_w.out hst_wj.out
  replace bb_wd : Hid (Below wd.heap.size wd wj) := below_then bb_wd.out hst_wj.out
  replace bb_wh : Hid (Below wh.heap.size wh wj) := below_then bb_wh.out hst_wj.out
  replace bb_wi : Hid (Below wi.heap.size wi wj) := below_then bb_wi.out hst_wj.out
  have hz_wj : wi.heap.size < wj.heap.size := by rw [hw_wj]; simp
  have bb_wj : Hid (Below wj.heap.size wj wj) := Below.refl _ _
  have ch_k : Hid (∀ v, Below wj.heap.size wj v → v.cell? ⟨wi.heap.size, 0, none⟩ = some (.int .i64 2) ∧ v.cell? ⟨wi.heap.size, 1, none⟩ = some (.int .i64 1) ∧ v.cell? ⟨wi.heap.size, 2, none⟩ = some (.int .i64 16) ∧ v.cell? ⟨wi.heap.size, 3, none⟩ = some (.int .i64 8) ∧ v.cell? ⟨wi.heap.size, 4, none⟩ = some (.slice lok 48 48)) := fun v hv => ⟨blk_held hw_wj hv 0 rfl, blk_held hw_wj hv 1 rfl, blk_held hw_wj hv 2 rfl, blk_held hw_wj hv 3 rfl, blk_held hw_wj hv 4 rfl⟩
  clear hw_wj
  obtain ⟨wk, hw_wk⟩ : ∃ wk, wk = wj.alloc (.cells Z 35) := ⟨_, rfl⟩
  rw [← hw_wk]
  have HR0 : Hid (wk.rowIs wj.heap.size 35 (nn * 4) (mcell 0 fun _ => none)) := by rw [hw_wk]; exact HROW.out wj
  have HBK : Hid (Below wj.heap.size wj wk) := by rw [hw_wk]; exact below_alloc _ _
  have zk : wj.heap.size = wi.heap.size + 1 := hs_wj.out
  rw [zk] at HR0
  clear hw_wk hmk HROW
  have hmz := fun w => run_make_row' (P := Try.prog) 33 5 (.int .u8 0) 1 Try.underlying33 info5 rfl .i64 .i64 0 (by omega) (by omega) w
  have hmz : ∀ w : World, (Instr.makeSlice 33 (.int .i64 0) (.int .i64 0)).run Try.prog w = .ok (.slice (some ⟨w.heap.size, 0, none⟩) 0 0) (w.alloc (.cells (madeCells #[.int .u8 0] 0) 5)) := hmz
  have HMZ : Hid (∀ w : World, (Instr.makeSlice 33 (.int .i64 0) (.int .i64 0)).run Try.prog w = .ok (.slice (some ⟨w.heap.size, 0, none⟩) 0 0) (w.alloc (.cells (madeCells #[.int .u8 0] 0) 5))) := hmz
  clear hmz
  go_loopw [11] (fun y wr => ∃ i : Nat, i ≤ nn ∧ y = .int .i64 i ∧ Hid (∃ G, wr.rowIs (wi.heap.size + 1) 35 (nn * 4) (mcell i G)) ∧ Hid (Below wj.heap.size wj wr)) (fun y _ => nn - (intOf y).toNat)
  case atStart => exact ⟨0, Nat.zero_le _, rfl, ⟨_, HR0.out⟩, HBK.out⟩
  case round =>
    obtain ⟨i, hi, rfl, hr, hb⟩ := hrel
    by_cases hlt : i < nn
    · obtain ⟨G, hrG⟩ := hr.out
      have zj := hb.out.size
      have hjlt : wi.heap.size + 1 < wr.heap.size := hrG.lt
      have hmz := HMZ.out wr
      obtain ⟨wx, hwx⟩ : ∃ wx, wx = wr.alloc (.cells (madeCells #[.int .u8 0] 0) 5) := ⟨_, rfl⟩
      rw [← hwx] at hmz
      have hrx : wx.rowIs (wi.heap.size + 1) 35 (nn * 4) (mcell i G) := by rw [hwx]; exact row_below hrG hjlt (below_alloc _ _)
      have HBX : Hid (Below wj.heap.size wj wx) := by rw [hwx]; exact below_then hb.out (below_alloc _ _)
      have c3 := hrx.cell (i := i * 4 + 3) (by omega)
      have f3 := hrx.frozen
      have hs3 := hrx.set (i * 4 + 3) (.slice (some ⟨wr.heap.size, 0, none⟩) 0 0)
      have c1 := hs3.cell (i := i * 4 + 1) (by omega)
      have f1 := hs3.frozen
      have HS3 : Hid ((wx.setCell ⟨wi.heap.size + 1, i * 4 + 3, none⟩ (.slice (some ⟨wr.heap.size, 0, none⟩) 0 0)).rowIs (wi.heap.size + 1) 35 (nn * 4) _) := hs3
      have i1 : (0 : Int) ≤ (i : Int) := by omega
      have i2 : (i : Int) < (nn : Int) := by omega
      have i3 : nn ≤ 65537 := by have := HNN.out; omega
      clear hwx hrG hrx hs3
      go_wp2_with fail
      go_roundw
      case rel =>
        refine ⟨i + 1, by omega, by go_num, ⟨upd i (some ⟨wr.heap.size, 0, none⟩) G, ?_⟩, ?_⟩
        · rw [show ((i : Int) % 3) = ((i % 3 : Nat) : Int) by omega]
          exact (HS3.out.set (i * 4 + 1) (.int .i64 ((i % 3 : Nat) : Int))).congr fun q _ => (mcell_succ i G _ q).symm
        · exact (HBX.out.setCell (by show wj.heap.size ≤ wi.heap.size + 1; omega) _).setCell (by show wj.heap.size ≤ wi.heap.size + 1; omega) _
      case measure => simp [intOf]; omega
    · obtain rfl : nn = i := by omega
      obtain ⟨G, hrG⟩ := hr.out
      have HRN : Hid (wr.rowIs (wi.heap.size + 1) 35 (nn * 4) (mcell nn G)) := hrG
      have HPT : Hid (∀ v, Below wr.heap.size wr v → ∀ m, m ≤ nn → Pts v (fun _ => True) (some ⟨wi.heap.size + 1, 0, none⟩) m mp G (fun _ => 0)) := fun v hv m hm => pts_many (row_below HRN.out HRN.out.lt hv) m hm
      clear hrG hr hi hlt
      have hst_wr : Hid (Below wj.heap.size wj wr) := hb.out
      replace bb_w : Hid (Below w.heap.size w wr) := below_then bb_w.out hst_wr.out
      replace bb_wd : Hid (Below wd.heap.size wd wr) := below_then bb_wd.out hst_wr.out
      replace bb_wh : Hid (Below wh.heap.size wh wr) := below_then bb_wh.out hst_wr.out
      replace bb_wi : Hid (Below wi.heap.size wi wr) := below_then bb_wi.out hst_wr.out
      replace bb_wj : Hid (Below wj.heap.size wj wr) := below_then bb_wj.out hst_wr.out
      have bb_wr : Hid (Below wr.heap.size wr wr) := Below.refl _ _
      have s1 : (65536 : Int) ≤ (nn : Int) := by have := HNN.out; omega
      have s2 : (1 : Int) ≤ (nn : Int) := by omega
      go_wp2_with fail
      refine (Rows_img nm_rows (some ⟨wi.heap.size + 1, 0, none⟩) nn _ _ wr (HPT.out wr (Below.refl _ _) 65536 (by omega))).mono ?_
      rintro e wl ⟨aor, capr, rfl, hrr, hl⟩
      have HRR : Hid (RdI wl aor [0, 1, 2]) := hrr
      have hst_wl : Hid (Below wr.heap.size wr wl) := hl
      replace bb_w : Hid (Below w.heap.size w wl) := below_then bb_w.out hst_wl.out
      replace bb_wd : Hid (Below wd.heap.size wd wl) := below_then bb_wd.out hst_wl.out
      replace bb_wh : Hid (Below wh.heap.size wh wl) := below_then bb_wh.out hst_wl.out
      replace bb_wi : Hid (Below wi.heap.size wi wl) := below_then bb_wi.out hst_wl.out
      replace bb_wj : Hid (Below wj.heap.size wj wl) := below_then bb_wj.out hst_wl.out
      replace bb_wr : Hid (Below wr.heap.size wr wl) := below_then bb_wr.out hst_wl.out
      have bb_wl : Hid (Below wl.heap.size wl wl) := Below.refl _ _
      clear hl hrr
      go_wp2_with fail
      refine (Rows_img (HNN.out.symm ▸ nm_rows2 : Rws mp nn 20 []) (some ⟨wi.heap.size + 1, 0, none⟩) nn _ _ wl (HPT.out wl bb_wr.out nn (Nat.le_refl _))).mono ?_
      rintro e wm ⟨ao5, cap5, rfl, hr5, hm⟩
      have hst_wm : Hid (Below wl.heap.size wl wm) := hm
      replace bb_w : Hid (Below w.heap.size w wm) := below_then bb_w.out hst_wm.out
      replace bb_wd : Hid (Below wd.heap.size wd wm) := below_then bb_wd.out hst_wm.out
      replace bb_wh : Hid (Below wh.heap.size wh wm) := below_then bb_wh.out hst_wm.out
      replace bb_wi : Hid (Below wi.heap.size wi wm) := below_then bb_wi.out hst_wm.out
      replace bb_wj : Hid (Below wj.heap.size wj wm) := below_then bb_wj.out hst_wm.out
      replace bb_wr : Hid (Below wr.heap.size wr wm) := below_then bb_wr.out hst_wm.out
      replace bb_wl : Hid (Below wl.heap.size wl wm) := below_then bb_wl.out hst_wm.out
      clear hm hr5
      obtain ⟨rd_k0, rd_k1, rd_k2, rd_k3, rd_k4⟩ := ch_k.out wm bb_wj.out
      have ra_k0 := fun o => held rd_k0 (below_alloc wm o)
      have ra_k1 := fun o => held rd_k1 (below_alloc wm o)
      have ra_k2 := fun o => held rd_k2 (below_alloc wm o)
      have ra_k3 := fun o => held rd_k3 (below_alloc wm o)
      have ra_k4 := fun o => held rd_k4 (below_alloc wm o)
      go_wp2_with fail
      clear rd_k0 rd_k1 rd_k2 rd_k3 rd_k4 ra_k0 ra_k1 ra_k2 ra_k3 ra_k4
      refine (After_any (HNN.out.symm ▸ nm_after6 : Aft 2 1 16 8 48 (fun _ => []) mp nn (-1) 20 0 0 0 0 0 (fun _ => [])) lok 48 Ak Ck (some ⟨wi.heap.size + 1, 0, none⟩) nn _ _ wm (HIK.out.lst.below bb_wi.out) (HPT.out wm bb_wr.out nn (Nat.le_refl _)) (Nat.le_refl _)).mono ?_
      rintro e wn ⟨lo6, A6, C6, rfl, hi6, hn⟩
      have hst_wn : Hid (Below wm.heap.size wm wn) := hn
      replace bb_w : Hid (Below w.heap.size w wn) := below_then bb_w.out hst_wn.out
      replace bb_wd : Hid (Below wd.heap.size wd wn) := below_then bb_wd.out hst_wn.out
      replace bb_wh : Hid (Below wh.heap.size wh wn) := below_then bb_wh.out hst_wn.out
      replace bb_wi : Hid (Below wi.heap.size wi wn) := below_then bb_wi.out hst_wn.out
      replace bb_wj : Hid (Below wj.heap.size wj wn) := below_then bb_wj.out hst_wn.out
      replace bb_wr : Hid (Below wr.heap.size wr wn) := below_then bb_wr.out hst_wn.out
      replace bb_wl : Hid (Below wl.heap.size wl wn) := below_then bb_wl.out hst_wn.out
      clear hn hi6
      obtain ⟨lk, rfl⟩ : ∃ lk, lok = some ⟨lk, 0, none⟩ := by
        rcases HIK.out with ⟨h, _⟩ | ⟨lk, e, _⟩
        · cases h
        · exact ⟨lk, e⟩
      go_wp2_with fail
      obtain ⟨wo, hw_wo⟩ : ∃ wo, wo = wn.alloc (.cells #[.int .i64 0, .int .i64 0, .int .i64 0, .int .i64 0, .slice lo6 0 0] 27) := ⟨_, rfl⟩
      rw [← hw_wo]
      have hs_wo : Hid (wo.heap.size = wn.heap.size + 1) := by rw [hw_wo]; show _ = _; simp
      have hst_wo : Hid (Below wn.heap.size wn wo) := by rw [hw_wo]; exact below_alloc _ _
      replace bb_w : Hid (Below w.heap.size w wo) := below_then bb_w.out hst_wo.out
      replace bb_wd : Hid (Below wd.heap.size wd wo) := below_then bb_wd.out hst_wo.out
      replace bb_wh : Hid (Below wh.heap.size wh wo) := below_then bb_wh.out hst_wo.out
      replace bb_wi : Hid (Below wi.heap.size wi wo) := below_then bb_wi.out hst_wo.out
      replace bb_wj : Hid (Below wj.heap.size wj wo) := below_then bb_wj.out hst_wo.out
      replace bb_wr : Hid (Below wr.heap.size wr wo) := below_then bb_wr.out hst_wo.out
      replace bb_wl : Hid (Below wl.heap.size wl wo) := below_then bb_wl.out hst_wo.out
      clear hw_wo
      have bb_wo : Hid (Below wo.heap.size wo wo) := Below.refl _ _
      have CH : Hid (∀ v, Below wo.heap.size wo v → v.cell? ⟨wi.heap.size, 0, none⟩ = some (.int .i64 2) ∧ v.cell? ⟨wi.heap.size, 1, none⟩ = some (.int .i64 1) ∧ v.cell? ⟨wi.heap.size, 2, none⟩ = some (.int .i64 16) ∧ v.cell? ⟨wi.heap.size, 3, none⟩ = some (.int .i64 8) ∧ v.cell? ⟨wi.heap.size, 4, none⟩ = some (.slice (some ⟨lk, 0, none⟩) 48 48)) := fun v hv => ch_k.out v (below_then bb_wj.out hv)
      obtain ⟨c0, c1, c2, c3, c4⟩ := CH.out wo (Below.refl _ _)
      have yc0 := fun o => held c0 (below_alloc wo o)
      have yc1 := fun o => held c1 (below_alloc wo o)
      have yc2 := fun o => held c2 (below_alloc wo o)
      have yc3 := fun o => held c3 (below_alloc wo o)
      have yc4 := fun o => held c4 (below_alloc wo o)
      have HA7 : Hid (∀ v, Below wo.heap.size wo v → Calls Try.prog 13 #[.agg #[.int .i64 2, .int .i64 1, .int .i64 16, .int .i64 8, .slice (some ⟨lk, 0, none⟩) 48 48], .slice (some ⟨wi.heap.size + 1, 0, none⟩) 1 nn, .int .i64 (-1)] v fun e w' => ∃ lo' A' C', e = .returned (.tuple #[.agg #[.int .i64 0, .int .i64 0, .int .i64 0, .int .i64 0, .slice lo' 0 0], .int .i64 80]) ∧ Im v.heap.size w' lo' 0 A' C' (fun _ => []) ∧ Below v.heap.size v w') := fun v hv => After_any nm_after7 (some ⟨lk, 0, none⟩) 48 Ak Ck (some ⟨wi.heap.size + 1, 0, none⟩) nn _ _ v (HIK.out.lst.below (below_then bb_wi.out hv)) (HPT.out v (below_then bb_wr.out hv) 1 (by omega)) (by omega)
      have zio : wi.heap.size < wo.heap.size := World.block_lt_of_cell? wo _ c0
      have ht0 : ∀ (v : World) i u o, (v.setCell ⟨wo.heap.size, i, none⟩ u).cell? ⟨wi.heap.size, o, none⟩ = v.cell? ⟨wi.heap.size, o, none⟩ := fun v i u o => World.cell?_of_block (Below.heap_setCell _ _ _ _ (by show wi.heap.size ≠ wo.heap.size; omega))
      go_region_held3 (fun v => v.cell? ⟨wi.heap.size, 0, none⟩ = some (.int .i64 2) ∧ v.cell? ⟨wi.heap.size, 1, none⟩ = some (.int .i64 1) ∧ v.cell? ⟨wi.heap.size, 2, none⟩ = some (.int .i64 16) ∧ v.cell? ⟨wi.heap.size, 3, none⟩ = some (.int .i64 8) ∧ v.cell? ⟨wi.heap.size, 4, none⟩ = some (.slice (some ⟨lk, 0, none⟩) 48 48)) (go_keep)
        ((go_at_call 13; refine (HA7.out _ (by first | exact below_drew _ _ | exact (below_alloc _ _).drew)).mono ?_; rintro e wp ⟨lo7, A7, C7, rfl, hi7, hp⟩; have HBP : Hid (Below wo.heap.size wo wp) := (by first | exact of_drew hp | exact below_then (below_alloc _ _) (of_drew hp)); (first | (obtain ⟨m0, m1, m2, m3, m4⟩ := img_held (w := wo) rfl (of_drew hp); have m5 := blk_free (w := wo) rfl (of_drew hp)) | skip); obtain ⟨d0, d1, d2, d3, d4⟩ := CH.out wp HBP.out; have zc0 := (fun o => held d0 (below_alloc wp o)); have zc1 := (fun o => held d1 (below_alloc wp o)); have zc2 := (fun o => held d2 (below_alloc wp o)); have zc3 := (fun o => held d3 (below_alloc wp o)); have zc4 := (fun o => held d4 (below_alloc wp o)); clear hi7 hp))
      all_goals
        first
          | (obtain ⟨wq, hwq⟩ : ∃ wq, wq = wp.alloc (.cells #[.int .i64 0, .int .i64 0, .int .i64 0, .int .i64 0, .slice lo7 0 0] 27) := ⟨_, rfl⟩
             rw [← hwq]
             have hq : Hid (Below wo.heap.size wo wq) := by rw [hwq]; exact below_then HBP.out (below_alloc _ _)
             clear hwq)
          | (obtain ⟨wq, hwq⟩ : ∃ wq, wq = (((((wp.setCell ⟨wo.heap.size, 0, none⟩ (.int .i64 0)).setCell ⟨wo.heap.size, 1, none⟩ (.int .i64 0)).setCell ⟨wo.heap.size, 2, none⟩ (.int .i64 0)).setCell ⟨wo.heap.size, 3, none⟩ (.int .i64 0)).setCell ⟨wo.heap.size, 4, none⟩ (.slice lo7 0 0)) := ⟨_, rfl⟩
             rw [← hwq]
             have hq : Hid (Below wo.heap.size wo wq) := by rw [hwq]; exact HBP.out.trans ((only5 wp wo.heap.size _ _ _ _ _).below (fun b h => by omega) HBP.out.size)
             clear hwq m0 m1 m2 m3 m4 m5)
        clear ht0 d0 d1 d2 d3 d4 zc0 zc1 zc2 zc3 zc4 yc0 yc1 yc2 yc3 yc4 c0 c1 c2 c3 c4 HA7 HBP CH zio s1 s2
        have hst_wq : Hid (Below wo.heap.size wo wq) := hq.out
        replace bb_w : Hid (Below w.heap.size w wq) := below_then bb_w.out hst_wq.out
        replace bb_wd : Hid (Below wd.heap.size wd wq) := below_then bb_wd.out hst_wq.out
        replace bb_wh : Hid (Below wh.heap.size wh wq) := below_then bb_wh.out hst_wq.out
        replace bb_wi : Hid (Below wi.heap.size wi wq) := below_then bb_wi.out hst_wq.out
        replace bb_wj : Hid (Below wj.heap.size wj wq) := below_then bb_wj.out hst_wq.out
        replace bb_wr : Hid (Below wr.heap.size wr wq) := below_then bb_wr.out hst_wq.out
        replace bb_wl : Hid (Below wl.heap.size wl wq) := below_then bb_wl.out hst_wq.out
        replace bb_wo : Hid (Below wo.heap.size wo wq) := below_then bb_wo.out hst_wq.out
        obtain ⟨rd_k0, rd_k1, rd_k2, rd_k3, rd_k4⟩ := ch_k.out wq bb_wj.out
        have ra_k0 := fun o => held rd_k0 (below_alloc wq o)
        have ra_k1 := fun o => held rd_k1 (below_alloc wq o)
        have ra_k2 := fun o => held rd_k2 (below_alloc wq o)
        have ra_k3 := fun o => held rd_k3 (below_alloc wq o)
        have ra_k4 := fun o => held rd_k4 (below_alloc wq o)
        go_wp2_with fail
        clear rd_k0 rd_k1 rd_k2 rd_k3 rd_k4 ra_k0 ra_k1 ra_k2 ra_k3 ra_k4
        refine (After_any nm_after8 (some ⟨lk, 0, none⟩) 48 Ak Ck none 0 (fun _ => none) (fun _ => 0) wq (HIK.out.lst.below bb_wi.out) (pts_none wq) (Nat.le_refl _)).mono ?_
        rintro e ws ⟨lo8, A8, C8, rfl, hi8, hs⟩
        have hst_ws : Hid (Below wq.heap.size wq ws) := hs
        replace bb_w : Hid (Below w.heap.size w ws) := below_then bb_w.out hst_ws.out
        replace bb_wd : Hid (Below wd.heap.size wd ws) := below_then bb_wd.out hst_ws.out
        replace bb_wh : Hid (Below wh.heap.size wh ws) := below_then bb_wh.out hst_ws.out
        replace bb_wi : Hid (Below wi.heap.size wi ws) := below_then bb_wi.out hst_ws.out
        replace bb_wj : Hid (Below wj.heap.size wj ws) := below_then bb_wj.out hst_ws.out
        replace bb_wr : Hid (Below wr.heap.size wr ws) := below_then bb_wr.out hst_ws.out
        replace bb_wl : Hid (Below wl.heap.size wl ws) := below_then bb_wl.out hst_ws.out
        replace bb_wo : Hid (Below wo.heap.size wo ws) := below_then bb_wo.out hst_ws.out
        clear hs hi8
        go_wp2_with fail
        obtain ⟨wt, hw_wt⟩ : ∃ wt, wt = ws.alloc (.cells #[.int .i64 0, .int .i64 0, .int .i64 0, .int .i64 0, .slice lo8 0 0] 27) := ⟨_, rfl⟩
        rw [← hw_wt]
        have hs_wt : Hid (wt.heap.size = ws.heap.size + 1) := by rw [hw_wt]; show _ = _; simp
        have hst_wt : Hid (Below ws.heap.size ws wt) := by rw [hw_wt]; exact below_alloc _ _
        replace bb_w : Hid (Below w.heap.size w wt) := below_then bb_w.out hst_wt.out
        replace bb_wd : Hid (Below wd.heap.size wd wt) := below_then bb_wd.out hst_wt.out
        replace bb_wh : Hid (Below wh.heap.size wh wt) := below_then bb_wh.out hst_wt.out
        replace bb_wi : Hid (Below wi.heap.size wi wt) := below_then bb_wi.out hst_wt.out
        replace bb_wj : Hid (Below wj.heap.size wj wt) := below_then bb_wj.out hst_wt.out
        replace bb_wr : Hid (Below wr.heap.size wr wt) := below_then bb_wr.out hst_wt.out
        replace bb_wl : Hid (Below wl.heap.size wl wt) := below_then bb_wl.out hst_wt.out
        replace bb_wo : Hid (Below wo.heap.size wo wt) := below_then bb_wo.out hst_wt.out
        clear hw_wt
        obtain ⟨rd_k0, rd_k1, rd_k2, rd_k3, rd_k4⟩ := ch_k.out wt bb_wj.out
        have ra_k0 := fun o => held rd_k0 (below_alloc wt o)
        have ra_k1 := fun o => held rd_k1 (below_alloc wt o)
        have ra_k2 := fun o => held rd_k2 (below_alloc wt o)
        have ra_k3 := fun o => held rd_k3 (below_alloc wt o)
        have ra_k4 := fun o => held rd_k4 (below_alloc wt o)
        obtain ⟨rd_p0, rd_p1, rd_p2, rd_p3⟩ := ch_p.out wt bb_wh.out
        have ra_p0 := fun o => held rd_p0 (below_alloc wt o)
        have ra_p1 := fun o => held rd_p1 (below_alloc wt o)
        have ra_p2 := fun o => held rd_p2 (below_alloc wt o)
        have ra_p3 := fun o => held rd_p3 (below_alloc wt o)
        go_region_held3 (fun v => v.cell? ⟨wg.heap.size, 0, none⟩ = some (.int .i64 2) ∧ v.cell? ⟨wg.heap.size, 1, none⟩ = some (.int .i64 1) ∧ v.cell? ⟨wg.heap.size, 2, none⟩ = some (.int .i64 16) ∧ v.cell? ⟨wg.heap.size, 3, none⟩ = some (.int .i64 8) ∧ v.cell? ⟨wi.heap.size, 4, none⟩ = some (.slice (some ⟨lk, 0, none⟩) 48 48)) (go_keep) (fail)
        clear rd_k0 rd_k1 rd_k2 rd_k3 rd_k4 ra_k0 ra_k1 ra_k2 ra_k3 ra_k4 rd_p0 rd_p1 rd_p2 rd_p3 ra_p0 ra_p1 ra_p2 ra_p3
        obtain ⟨wu0, hw_wu0⟩ : ∃ wu0, wu0 = wt.alloc (.cells #[.int .i64 2, .int .i64 1, .int .i64 16, .int .i64 8, .slice (some ⟨lk, 1, none⟩) 47 47] 27) := ⟨_, rfl⟩
        rw [← hw_wu0]
        have hs_wu0 : Hid (wu0.heap.size = wt.heap.size + 1) := by rw [hw_wu0]; show _ = _; simp
        have hst_wu0 : Hid (Below wt.heap.size wt wu0) := by rw [hw_wu0]; exact below_alloc _ _
        replace bb_w : Hid (Below w.heap.size w wu0) := below_then bb_w.out hst_wu0.out
        replace bb_wd : Hid (Below wd.heap.size wd wu0) := below_then bb_wd.out hst_wu0.out
        replace bb_wh : Hid (Below wh.heap.size wh wu0) := below_then bb_wh.out hst_wu0.out
        replace bb_wi : Hid (Below wi.heap.size wi wu0) := below_then bb_wi.out hst_wu0.out
        replace bb_wj : Hid (Below wj.heap.size wj wu0) := below_then bb_wj.out hst_wu0.out
        replace bb_wr : Hid (Below wr.heap.size wr wu0) := below_then bb_wr.out hst_wu0.out
        replace bb_wl : Hid (Below wl.heap.size wl wu0) := below_then bb_wl.out hst_wu0.out
        replace bb_wo : Hid (Below wo.heap.size wo wu0) := below_then bb_wo.out hst_wu0.out
        have hz_wu0 : wt.heap.size < wu0.heap.size := by rw [hw_wu0]; simp
        have bb_wu0 : Hid (Below wu0.heap.size wu0 wu0) := Below.refl _ _
        have ch_bad : Hid (∀ v, Below wu0.heap.size wu0 v → v.cell? ⟨wt.heap.size, 0, none⟩ = some (.int .i64 2) ∧ v.cell? ⟨wt.heap.size, 1, none⟩ = some (.int .i64 1) ∧ v.cell? ⟨wt.heap.size, 2, none⟩ = some (.int .i64 16) ∧ v.cell? ⟨wt.heap.size, 3, none⟩ = some (.int .i64 8) ∧ v.cell? ⟨wt.heap.size, 4, none⟩ = some (.slice (some ⟨lk, 1, none⟩) 47 47)) := fun v hv => ⟨blk_held hw_wu0 hv 0 rfl, blk_held hw_wu0 hv 1 rfl, blk_held hw_wu0 hv 2 rfl, blk_held hw_wu0 hv 3 rfl, blk_held hw_wu0 hv 4 rfl⟩
        clear hw_wu0
        obtain ⟨wu, hw_wu⟩ : ∃ wu, wu = wu0.drew := ⟨_, rfl⟩
        rw [← hw_wu]
        have hst_wu : Hid (Below wu0.heap.size wu0 wu) := by rw [hw_wu]; exact below_drew _ _
        replace bb_w : Hid (Below w.heap.size w wu) := below_then bb_w.out hst_wu.out
        replace bb_wd : Hid (Below wd.heap.size wd wu) := below_then bb_wd.out hst_wu.out
        replace bb_wh : Hid (Below wh.heap.size wh wu) := below_then bb_wh.out hst_wu.out
        replace bb_wi : Hid (Below wi.heap.size wi wu) := below_then bb_wi.out hst_wu.out
        replace bb_wj : Hid (Below wj.heap.size wj wu) := below_then bb_wj.out hst_wu.out
        replace bb_wr : Hid (Below wr.heap.size wr wu) := below_then bb_wr.out hst_wu.out
        replace bb_wl : Hid (Below wl.heap.size wl wu) := below_then bb_wl.out hst_wu.out
        replace bb_wo : Hid (Below wo.heap.size wo wu) := below_then bb_wo.out hst_wu.out
        replace bb_wu0 : Hid (Below wu0.heap.size wu0 wu) := below_then bb_wu0.out hst_wu.out
        clear hw_wu
        have HLB : Hid (Lst wi (some ⟨lk, 1, none⟩) 47 (fun i => Ak (i + 1)) (fun i => Ck (i + 1)) (fun _ => [])) := HIK.out.lst.tail
        obtain ⟨rd_bad0, rd_bad1, rd_bad2, rd_bad3, rd_bad4⟩ := ch_bad.out wu bb_wu0.out
        have ra_bad0 := fun o => held rd_bad0 (below_alloc wu o)
        have ra_bad1 := fun o => held rd_bad1 (below_alloc wu o)
        have ra_bad2 := fun o => held rd_bad2 (below_alloc wu o)
        have ra_bad3 := fun o => held rd_bad3 (below_alloc wu o)
        have ra_bad4 := fun o => held rd_bad4 (below_alloc wu o)
        go_wp2_with fail
        clear rd_bad0 rd_bad1 rd_bad2 rd_bad3 rd_bad4 ra_bad0 ra_bad1 ra_bad2 ra_bad3 ra_bad4
        refine (After_any (HNN.out.symm ▸ nm_after9 : Aft 2 1 16 8 47 (fun _ => []) mp nn (-1) 90 0 0 0 0 0 (fun _ => [])) (some ⟨lk, 1, none⟩) 47 _ _ (some ⟨wi.heap.size + 1, 0, none⟩) nn _ _ wu (HLB.out.below bb_wi.out) (HPT.out wu bb_wr.out nn (Nat.le_refl _)) (Nat.le_refl _)).mono ?_
        rintro e wv ⟨lo9, A9, C9, rfl, hi9, hv⟩
        have hst_wv : Hid (Below wu.heap.size wu wv) := hv
        replace bb_w : Hid (Below w.heap.size w wv) := below_then bb_w.out hst_wv.out
        replace bb_wd : Hid (Below wd.heap.size wd wv) := below_then bb_wd.out hst_wv.out
        replace bb_wh : Hid (Below wh.heap.size wh wv) := below_then bb_wh.out hst_wv.out
        replace bb_wi : Hid (Below wi.heap.size wi wv) := below_then bb_wi.out hst_wv.out
        replace bb_wj : Hid (Below wj.heap.size wj wv) := below_then bb_wj.out hst_wv.out
        replace bb_wr : Hid (Below wr.heap.size wr wv) := below_then bb_wr.out hst_wv.out
        replace bb_wl : Hid (Below wl.heap.size wl wv) := below_then bb_wl.out hst_wv.out
        replace bb_wo : Hid (Below wo.heap.size wo wv) := below_then bb_wo.out hst_wv.out
        replace bb_wu0 : Hid (Below wu0.heap.size wu0 wv) := below_then bb_wu0.out hst_wv.out
        clear hv hi9
        obtain ⟨rd_bad0, rd_bad1, rd_bad2, rd_bad3, rd_bad4⟩ := ch_bad.out wv bb_wu0.out
        have ra_bad0 := fun o => held rd_bad0 (below_alloc wv o)
        have ra_bad1 := fun o => held rd_bad1 (below_alloc wv o)
        have ra_bad2 := fun o => held rd_bad2 (below_alloc wv o)
        have ra_bad3 := fun o => held rd_bad3 (below_alloc wv o)
        have ra_bad4 := fun o => held rd_bad4 (below_alloc wv o)
        go_wp2_with fail
        clear rd_bad0 rd_bad1 rd_bad2 rd_bad3 rd_bad4 ra_bad0 ra_bad1 ra_bad2 ra_bad3 ra_bad4
        obtain ⟨ww, hw_ww⟩ : ∃ ww, ww = wv.alloc (.cells #[.int .i64 0, .int .i64 0, .int .i64 0, .int .i64 0, .slice lo9 0 0] 27) := ⟨_, rfl⟩
        rw [← hw_ww]
        have hs_ww : Hid (ww.heap.size = wv.heap.size + 1) := by rw [hw_ww]; show _ = _; simp
        have hst_ww : Hid (Below wv.heap.size wv ww) := by rw [hw_ww]; exact below_alloc _ _
        replace bb_w : Hid (Below w.heap.size w ww) := below_then bb_w.out hst_ww.out
        replace bb_wd : Hid (Below wd.heap.size wd ww) := below_then bb_wd.out hst_ww.out
        replace bb_wh : Hid (Below wh.heap.size wh ww) := below_then bb_wh.out hst_ww.out
        replace bb_wi : Hid (Below wi.heap.size wi ww) := below_then bb_wi.out hst_ww.out
        replace bb_wj : Hid (Below wj.heap.size wj ww) := below_then bb_wj.out hst_ww.out
        replace bb_wr : Hid (Below wr.heap.size wr ww) := below_then bb_wr.out hst_ww.out
        replace bb_wl : Hid (Below wl.heap.size wl ww) := below_then bb_wl.out hst_ww.out
        replace bb_wo : Hid (Below wo.heap.size wo ww) := below_then bb_wo.out hst_ww.out
        replace bb_wu0 : Hid (Below wu0.heap.size wu0 ww) := below_then bb_wu0.out hst_ww.out
        clear hw_ww
        refine (Diff_any nm_diff10 (some ⟨lk, 1, none⟩) none 47 0 _ (fun _ => none) _ (fun _ => 0) ww (HLB.out.below bb_wi.out) (lst_none _ _ _ _ _)).mono ?_
        rintro e wx ⟨po10, pc10, B10, K10, rfl, hi10, hx⟩
        have hst_wx : Hid (Below ww.heap.size ww wx) := hx
        replace bb_w : Hid (Below w.heap.size w wx) := below_then bb_w.out hst_wx.out
        replace bb_wd : Hid (Below wd.heap.size wd wx) := below_then bb_wd.out hst_wx.out
        replace bb_wh : Hid (Below wh.heap.size wh wx) := below_then bb_wh.out hst_wx.out
        replace bb_wi : Hid (Below wi.heap.size wi wx) := below_then bb_wi.out hst_wx.out
        replace bb_wj : Hid (Below wj.heap.size wj wx) := below_then bb_wj.out hst_wx.out
        replace bb_wr : Hid (Below wr.heap.size wr wx) := below_then bb_wr.out hst_wx.out
        replace bb_wl : Hid (Below wl.heap.size wl wx) := below_then bb_wl.out hst_wx.out
        replace bb_wo : Hid (Below wo.heap.size wo wx) := below_then bb_wo.out hst_wx.out
        replace bb_wu0 : Hid (Below wu0.heap.size wu0 wx) := below_then bb_wu0.out hst_wx.out
        clear hx hi10
        obtain ⟨rd_k0, rd_k1, rd_k2, rd_k3, rd_k4⟩ := ch_k.out wx bb_wj.out
        have ra_k0 := fun o => held rd_k0 (below_alloc wx o)
        have ra_k1 := fun o => held rd_k1 (below_alloc wx o)
        have ra_k2 := fun o => held rd_k2 (below_alloc wx o)
        have ra_k3 := fun o => held rd_k3 (below_alloc wx o)
        have ra_k4 := fun o => held rd_k4 (below_alloc wx o)
        go_wp2_with fail
        clear rd_k0 rd_k1 rd_k2 rd_k3 rd_k4 ra_k0 ra_k1 ra_k2 ra_k3 ra_k4
        refine (Diff_any nm_diff11 (some ⟨lk, 0, none⟩) none 48 0 _ (fun _ => none) _ (fun _ => 0) wx (HIK.out.lst.below bb_wi.out) (lst_none _ _ _ _ _)).mono ?_
        rintro e wy ⟨po11, pc11, B11, K11, rfl, hi11, hy⟩
        have hst_wy : Hid (Below wx.heap.size wx wy) := hy
        replace bb_w : Hid (Below w.heap.size w wy) := below_then bb_w.out hst_wy.out
        replace bb_wd : Hid (Below wd.heap.size wd wy) := below_then bb_wd.out hst_wy.out
        replace bb_wh : Hid (Below wh.heap.size wh wy) := below_then bb_wh.out hst_wy.out
        replace bb_wi : Hid (Below wi.heap.size wi wy) := below_then bb_wi.out hst_wy.out
        replace bb_wj : Hid (Below wj.heap.size wj wy) := below_then bb_wj.out hst_wy.out
        replace bb_wr : Hid (Below wr.heap.size wr wy) := below_then bb_wr.out hst_wy.out
        replace bb_wl : Hid (Below wl.heap.size wl wy) := below_then bb_wl.out hst_wy.out
        replace bb_wo : Hid (Below wo.heap.size wo wy) := below_then bb_wo.out hst_wy.out
        replace bb_wu0 : Hid (Below wu0.heap.size wu0 wy) := below_then bb_wu0.out hst_wy.out
        clear hy hi11
        obtain ⟨rd_k0, rd_k1, rd_k2, rd_k3, rd_k4⟩ := ch_k.out wy bb_wj.out
        have ra_k0 := fun o => held rd_k0 (below_alloc wy o)
        have ra_k1 := fun o => held rd_k1 (below_alloc wy o)
        have ra_k2 := fun o => held rd_k2 (below_alloc wy o)
        have ra_k3 := fun o => held rd_k3 (below_alloc wy o)
        have ra_k4 := fun o => held rd_k4 (below_alloc wy o)
        obtain ⟨rd_m0, rd_m1, rd_m2, rd_m3, rd_m4⟩ := ch_m.out wy bb_wd.out
        have ra_m0 := fun o => held rd_m0 (below_alloc wy o)
        have ra_m1 := fun o => held rd_m1 (below_alloc wy o)
        have ra_m2 := fun o => held rd_m2 (below_alloc wy o)
        have ra_m3 := fun o => held rd_m3 (below_alloc wy o)
        have ra_m4 := fun o => held rd_m4 (below_alloc wy o)
        go_wp2_with fail
        clear rd_k0 rd_k1 rd_k2 rd_k3 rd_k4 ra_k0 ra_k1 ra_k2 ra_k3 ra_k4 rd_m0 rd_m1 rd_m2 rd_m3 rd_m4 ra_m0 ra_m1 ra_m2 ra_m3 ra_m4
        refine (Diff_any nm_diff12 (some ⟨lk, 0, none⟩) lom 48 8192 _ _ _ _ wy (HIK.out.lst.below bb_wi.out) (HLM.out.below bb_wd.out)).mono ?_
        rintro e wz ⟨po12, pc12, B12, K12, rfl, hi12, hz⟩
        have hst_wz : Hid (Below wy.heap.size wy wz) := hz
        replace bb_w : Hid (Below w.heap.size w wz) := below_then bb_w.out hst_wz.out
        replace bb_wd : Hid (Below wd.heap.size wd wz) := below_then bb_wd.out hst_wz.out
        replace bb_wh : Hid (Below wh.heap.size wh wz) := below_then bb_wh.out hst_wz.out
        replace bb_wi : Hid (Below wi.heap.size wi wz) := below_then bb_wi.out hst_wz.out
        replace bb_wj : Hid (Below wj.heap.size wj wz) := below_then bb_wj.out hst_wz.out
        replace bb_wr : Hid (Below wr.heap.size wr wz) := below_then bb_wr.out hst_wz.out
        replace bb_wl : Hid (Below wl.heap.size wl wz) := below_then bb_wl.out hst_wz.out
        replace bb_wo : Hid (Below wo.heap.size wo wz) := below_then bb_wo.out hst_wz.out
        replace bb_wu0 : Hid (Below wu0.heap.size wu0 wz) := below_then bb_wu0.out hst_wz.out
        clear hz hi12
        obtain ⟨rd_k0, rd_k1, rd_k2, rd_k3, rd_k4⟩ := ch_k.out wz bb_wj.out
        have ra_k0 := fun o => held rd_k0 (below_alloc wz o)
        have ra_k1 := fun o => held rd_k1 (below_alloc wz o)
        have ra_k2 := fun o => held rd_k2 (below_alloc wz o)
        have ra_k3 := fun o => held rd_k3 (below_alloc wz o)
        have ra_k4 := fun o => held rd_k4 (below_alloc wz o)
        go_wp2_with fail
        clear rd_k0 rd_k1 rd_k2 rd_k3 rd_k4 ra_k0 ra_k1 ra_k2 ra_k3 ra_k4
        refine (Row_any nm_row (some ⟨lk, 0, none⟩) 48 (Nat.le_refl _) _ _ wz (HIK.out.lst.below bb_wi.out)).mono ?_
        rintro e w1 ⟨lo13, A13, C13, rfl, hi13, h13⟩
        have hst_w1 : Hid (Below wz.heap.size wz w1) := h13
        replace bb_w : Hid (Below w.heap.size w w1) := below_then bb_w.out hst_w1.out
        replace bb_wd : Hid (Below wd.heap.size wd w1) := below_then bb_wd.out hst_w1.out
        replace bb_wh : Hid (Below wh.heap.size wh w1) := below_then bb_wh.out hst_w1.out
        replace bb_wi : Hid (Below wi.heap.size wi w1) := below_then bb_wi.out hst_w1.out
        replace bb_wj : Hid (Below wj.heap.size wj w1) := below_then bb_wj.out hst_w1.out
        replace bb_wr : Hid (Below wr.heap.size wr w1) := below_then bb_wr.out hst_w1.out
        replace bb_wl : Hid (Below wl.heap.size wl w1) := below_then bb_wl.out hst_w1.out
        replace bb_wo : Hid (Below wo.heap.size wo w1) := below_then bb_wo.out hst_w1.out
        replace bb_wu0 : Hid (Below wu0.heap.size wu0 w1) := below_then bb_wu0.out hst_w1.out
        clear h13 hi13
        obtain ⟨rd_k0, rd_k1, rd_k2, rd_k3, rd_k4⟩ := ch_k.out w1 bb_wj.out
        have ra_k0 := fun o => held rd_k0 (below_alloc w1 o)
        have ra_k1 := fun o => held rd_k1 (below_alloc w1 o)
        have ra_k2 := fun o => held rd_k2 (below_alloc w1 o)
        have ra_k3 := fun o => held rd_k3 (below_alloc w1 o)
        have ra_k4 := fun o => held rd_k4 (below_alloc w1 o)
        go_wp2_with fail
        clear rd_k0 rd_k1 rd_k2 rd_k3 rd_k4 ra_k0 ra_k1 ra_k2 ra_k3 ra_k4
        refine (Wiped_any nm_wiped (some ⟨lk, 0, none⟩) 48 _ _ w1 (HIK.out.lst.below bb_wi.out)).mono ?_
        rintro e w2 ⟨lo14, A14, C14, rfl, hi14, h14⟩
        have hst_w2 : Hid (Below w1.heap.size w1 w2) := h14
        replace bb_w : Hid (Below w.heap.size w w2) := below_then bb_w.out hst_w2.out
        replace bb_wd : Hid (Below wd.heap.size wd w2) := below_then bb_wd.out hst_w2.out
        replace bb_wh : Hid (Below wh.heap.size wh w2) := below_then bb_wh.out hst_w2.out
        replace bb_wi : Hid (Below wi.heap.size wi w2) := below_then bb_wi.out hst_w2.out
        replace bb_wj : Hid (Below wj.heap.size wj w2) := below_then bb_wj.out hst_w2.out
        replace bb_wr : Hid (Below wr.heap.size wr w2) := below_then bb_wr.out hst_w2.out
        replace bb_wl : Hid (Below wl.heap.size wl w2) := below_then bb_wl.out hst_w2.out
        replace bb_wo : Hid (Below wo.heap.size wo w2) := below_then bb_wo.out hst_w2.out
        replace bb_wu0 : Hid (Below wu0.heap.size wu0 w2) := below_then bb_wu0.out hst_w2.out
        clear h14 hi14
        obtain ⟨w3, hw_w3⟩ : ∃ w3, w3 = w2.alloc (.cells #[.int .i64 0, .int .i64 0, .int .i64 0, .int .i64 0, .slice lo14 0 0] 27) := ⟨_, rfl⟩
        have hst_w3 : Hid (Below w2.heap.size w2 w3) := by rw [hw_w3]; exact below_alloc _ _
        replace bb_w : Hid (Below w.heap.size w w3) := below_then bb_w.out hst_w3.out
        replace bb_wd : Hid (Below wd.heap.size wd w3) := below_then bb_wd.out hst_w3.out
        replace bb_wh : Hid (Below wh.heap.size wh w3) := below_then bb_wh.out hst_w3.out
        replace bb_wi : Hid (Below wi.heap.size wi w3) := below_then bb_wi.out hst_w3.out
        replace bb_wj : Hid (Below wj.heap.size wj w3) := below_then bb_wj.out hst_w3.out
        replace bb_wr : Hid (Below wr.heap.size wr w3) := below_then bb_wr.out hst_w3.out
        replace bb_wl : Hid (Below wl.heap.size wl w3) := below_then bb_wl.out hst_w3.out
        replace bb_wo : Hid (Below wo.heap.size wo w3) := below_then bb_wo.out hst_w3.out
        replace bb_wu0 : Hid (Below wu0.heap.size wu0 w3) := below_then bb_wu0.out hst_w3.out
        obtain ⟨bl, offl, rfl, hbl⟩ := HRR.out (by simp)
        have HR2 : Hid (∀ v, Below w3.heap.size w3 v → v.cell? ⟨bl, offl + 2, none⟩ = some (.int .i64 2)) := fun v hv => held (hbl 2 (by simp)) (below_then bb_wl.out hv)
        clear hbl
        have HCK : Hid (Calls Try.prog 17 #[.agg #[.int .i64 12, .int .i64 4, .int .i64 64, .int .i64 256, .slice lom 8192 8192]] w3 fun e w' => e = .returned (.int .i64 0) ∧ Below w3.heap.size w3 w') := Check_img ckb lom 8192 _ _ w3 (HLM.out.below bb_wd.out)
        obtain ⟨rd_m0, rd_m1, rd_m2, rd_m3, rd_m4⟩ := ch_m.out w3 bb_wd.out
        rw [hw_w3] at rd_m0 rd_m1 rd_m2 rd_m3 rd_m4
        go_wp2_with (go_at_call 17; rw [← hw_w3]; clear hw_w3 rd_m0 rd_m1 rd_m2 rd_m3 rd_m4; refine HCK.out.mono ?_; rintro e w4 ⟨rfl, h4⟩; have H4 : Hid (Below w3.heap.size w3 w4) := h4; have hr2 := HR2.out w4 h4; clear h4)
        go_ret
        exact ⟨rfl, below_then bb_w.out H4.out⟩

end Go.Proofs.Ytenlfhdchflnjaa
